/- Contracts of the functions that the law runs, part 1: made by a program, checked by the kernel. No conditions. -/
import Derived.Test.YtfgdbanigkfjlaaDoorProg
import Derived.KernelRfl
import Derived.Test.YtfgdbanigkfjlaaDoorLa
namespace Go.Proofs.G2
open Go.Sim Go.Proofs
set_option maxRecDepth 20000
set_option maxHeartbeats 1000000
noncomputable abbrev P : Program := Tryd.prog
theorem zB : (Tryd.prog.types.toList.all zeroB) = true := by kernel_rfl
theorem pfT : PF P := ⟨info_zero zB, by kernel_rfl⟩
noncomputable def GG : Globals := [(0, [.int .i64 1, .int .i64 2, .int .i64 3])]
abbrev I (n : Int) : Value := .int .i64 n
abbrev W (n : Int) : Int := IntKind.i64.wrap n
def imin (x y : Int) : Int := if y < x then y else x
def imax (x y : Int) : Int := if y > x then y else x
theorem eq_of_bne {a b : Int} {c : Bool} (h : (a != b) = c) : (a == b) = !c := by rw [← h]; simp [bne]
theorem bne_of_eq {a b : Int} {c : Bool} (h : (a == b) = c) : (a != b) = !c := by rw [← h]; rfl
def hE : Hint := ⟨.ev, none⟩
def hT : Hint := ⟨.ev, some true⟩
def hF : Hint := ⟨.ev, some false⟩
def hX : Hint := ⟨.ix, none⟩
def hQ : Hint := ⟨.eq, none⟩
def hR (n : Nat) (l : List Hint) : List Hint := Nat.rec (motive := fun _ => List Hint) l (fun _ r => hE :: r) n
def hD : Hint := ⟨.dv, none⟩
def hL (v : Value) : Hint := ⟨.ld v, none⟩
def hC (v : Value) : Hint := ⟨.cf v, none⟩
def hM (v0 v : Value) (ca : List Value) (km : List (Nat × List Value)) (σ : Ren) : Hint := ⟨.cm v0 v ca km σ, none⟩
def hZ (v : Value) : Hint := ⟨.lz v, none⟩
def hZS : Hint := ⟨.lzs, none⟩
def hI : Hint := ⟨.inl, none⟩
def hED (z : Nat) (es : List Nat) : Hint := ⟨.ed z es, none⟩
def hN (v0 v : Value) (ca : List Value) (km : List (Nat × List Value)) (σ : Ren) (b : Nat) (c : List Value) (sz : Nat) : Hint := ⟨.cn v0 v ca km σ b c sz, none⟩
def hLC (ts bs : List Nat) (nxt : Nat) (e : AEx) (kn : List (Nat × Value)) (km : List (Nat × AObj)) : Hint := ⟨.lc ts bs nxt e kn km, none⟩
def hB (h : Hint) (b : Bool) : Hint := ⟨h.h, some b⟩
structure XStand where
  Age : Int
  Shoots : Int
  Height : Int
  Girth : Int

def zXStand : XStand := ⟨0, 0, 0, 0⟩

structure XBox where
  Low : XStand
  High : XStand

def zXBox : XBox := ⟨zXStand, zXStand⟩

structure XSpan where
  Low : Int
  High : Int

def zXSpan : XSpan := ⟨0, 0⟩

structure XSample where
  Kind : Int
  Span : XSpan

def zXSample : XSample := ⟨0, zXSpan⟩

def cXSample (x : XSample) : List Value := [I (x.Kind), I (x.Span.Low), I (x.Span.High)]
theorem cXSample_len (x : XSample) : (cXSample x).length = 3 := rfl
theorem cXSample_pf : ∀ (x : XSample), ∀ v ∈ cXSample x, pf v = true := by
  intro x v hv
  simp only [cXSample, List.mem_cons, List.not_mem_nil, or_false] at hv
  rcases hv with rfl | rfl | rfl <;> rfl

/- greenhew/growth.tooMany -/
abbrev A_growth_tooMany (l : List XSample) (q10 : Nat) : List Value := [.slice (some ⟨10, 0, none⟩) (l.length) (q10)]
abbrev K_growth_tooMany (l : List XSample) : List (Nat × List Value) := [(10, encL cXSample l)]
noncomputable def growth_tooMany (l : List XSample) : Bool :=
  decide (((l.length : Nat) : Int) > 50)
theorem growth_tooMany_fc (l : List XSample) (q10 : Nat) : FC P GG 77 (A_growth_tooMany l q10) (K_growth_tooMany l) (.bool (growth_tooMany l)) := by
  refine FC.of_fsat 6 100 Tryd.func77 (by kernel_rfl) (by kernel_rfl) (by kernel_rfl) ⟨PinL.pf (encL_pf cXSample_pf _), trivial⟩ ?_
  have e : growth_tooMany l = decide (((l.length : Nat) : Int) > 50) := by unfold growth_tooMany; rfl
  rw [e]
  exact FSat.d pfT 10 (hR 5 []) [] (pn) (by kernel_rfl) (by kernel_rfl)

/- greenhew/growth.within -/
abbrev A_growth_within (n least most : Int) : List Value := [I (n), I (least), I (most)]
noncomputable def growth_within (n least most : Int) : Bool :=
  bif decide (n ≥ least) then decide (n ≤ most)
  else false
theorem growth_within_fc (n least most : Int) : FC P GG 94 (A_growth_within n least most) [] (.bool (growth_within n least most)) := by
  refine FC.of_fsat 15 100 Tryd.func94 (by kernel_rfl) (by kernel_rfl) (by kernel_rfl) trivial ?_
  rcases bb (decide (n ≥ least)) with h1 | h1
  ·have e : growth_within n least most = decide (n ≤ most) := by unfold growth_within; rw [h1, cT]; first | done | rfl
   rw [e]
   exact FSat.d pfT 10 (hE :: hE :: hE :: hT :: (hR 6 [])) [] (pc h1 <| pn) (by kernel_rfl) (by kernel_rfl)
  ·have e : growth_within n least most = false := by unfold growth_within; rw [h1, cF]; first | done | rfl
   rw [e]
   exact FSat.d pfT 10 [hE, hE, hE, hF, hE, hE, hE] [] (pc h1 <| pn) (by kernel_rfl) (by kernel_rfl)

/- greenhew/growth.standIsDefined -/
abbrev A_growth_standIsDefined (x_0 : XStand) : List Value := [.agg #[I (x_0.Age), I (x_0.Shoots), I (x_0.Height), I (x_0.Girth)]]
noncomputable def growth_standIsDefined (x_0 : XStand) : Bool :=
  bif growth_within x_0.Age 0 100000 then (bif growth_within x_0.Shoots 0 300 then (bif growth_within x_0.Height 0 40000 then growth_within x_0.Girth 0 3000
      else false)
    else false)
  else false
theorem growth_standIsDefined_fc (x_0 : XStand) : FC P GG 58 (A_growth_standIsDefined x_0) [] (.bool (growth_standIsDefined x_0)) := by
  refine FC.of_fsat 21 100 Tryd.func58 (by kernel_rfl) (by kernel_rfl) (by kernel_rfl) trivial ?_
  rcases bb (growth_within x_0.Age 0 100000) with h1 | h1
  ·rcases bb (growth_within x_0.Shoots 0 300) with h2 | h2
   ·rcases bb (growth_within x_0.Height 0 40000) with h3 | h3
    ·have e : growth_standIsDefined x_0 = growth_within x_0.Girth 0 3000 := by unfold growth_standIsDefined; rw [h1, cT, h2, cT, h3, cT]; first | done | rfl
     rw [e]
     exact FSat.d pfT 10 (hR 4 ((hB (hC (.bool (growth_within x_0.Age 0 100000))) true) :: hE :: hE :: hE :: (hB (hC (.bool (growth_within x_0.Shoots 0 300))) true) :: (hR 4 ((hB (hC (.bool (growth_within x_0.Height 0 40000))) true) :: (hR 4 [(hC (.bool (growth_within x_0.Girth 0 3000))), hE, hE]))))) [] (pc (growth_within_fc x_0.Age 0 100000) <| pc h1 <| pc (growth_within_fc x_0.Shoots 0 300) <| pc h2 <| pc (growth_within_fc x_0.Height 0 40000) <| pc h3 <| pc (growth_within_fc x_0.Girth 0 3000) <| pn) (by kernel_rfl) (by kernel_rfl)
    ·have e : growth_standIsDefined x_0 = false := by unfold growth_standIsDefined; rw [h1, cT, h2, cT, h3, cF]; first | done | rfl
     rw [e]
     exact FSat.d pfT 10 (hR 4 ((hB (hC (.bool (growth_within x_0.Age 0 100000))) true) :: hE :: hE :: hE :: (hB (hC (.bool (growth_within x_0.Shoots 0 300))) true) :: (hR 4 ((hB (hC (.bool (growth_within x_0.Height 0 40000))) false) :: (hR 4 []))))) [] (pc (growth_within_fc x_0.Age 0 100000) <| pc h1 <| pc (growth_within_fc x_0.Shoots 0 300) <| pc h2 <| pc (growth_within_fc x_0.Height 0 40000) <| pc h3 <| pn) (by kernel_rfl) (by kernel_rfl)
   ·have e : growth_standIsDefined x_0 = false := by unfold growth_standIsDefined; rw [h1, cT, h2, cF]; first | done | rfl
    rw [e]
    exact FSat.d pfT 10 (hR 4 ((hB (hC (.bool (growth_within x_0.Age 0 100000))) true) :: hE :: hE :: hE :: (hB (hC (.bool (growth_within x_0.Shoots 0 300))) false) :: (hR 6 []))) [] (pc (growth_within_fc x_0.Age 0 100000) <| pc h1 <| pc (growth_within_fc x_0.Shoots 0 300) <| pc h2 <| pn) (by kernel_rfl) (by kernel_rfl)
  ·have e : growth_standIsDefined x_0 = false := by unfold growth_standIsDefined; rw [h1, cF]; first | done | rfl
   rw [e]
   exact FSat.d pfT 10 (hR 4 ((hB (hC (.bool (growth_within x_0.Age 0 100000))) false) :: (hR 7 []))) [] (pc (growth_within_fc x_0.Age 0 100000) <| pc h1 <| pn) (by kernel_rfl) (by kernel_rfl)

/- greenhew/growth.boxIsDefined -/
abbrev A_growth_boxIsDefined (b : XBox) : List Value := [.agg #[I (b.Low.Age), I (b.Low.Shoots), I (b.Low.Height), I (b.Low.Girth), I (b.High.Age), I (b.High.Shoots), I (b.High.Height), I (b.High.Girth)]]
noncomputable def growth_boxIsDefined (b : XBox) : Bool :=
  bif growth_standIsDefined b.Low then (bif growth_standIsDefined b.High then (bif b.Low.Age == b.High.Age then (bif decide (b.Low.Shoots ≤ b.High.Shoots) then (bif decide (b.Low.Height ≤ b.High.Height) then decide (b.Low.Girth ≤ b.High.Girth)
          else false)
        else false)
      else false)
    else false)
  else false
theorem growth_boxIsDefined_fc (b : XBox) : FC P GG 68 (A_growth_boxIsDefined b) [] (.bool (growth_boxIsDefined b)) := by
  refine FC.of_fsat 47 100 Tryd.func68 (by kernel_rfl) (by kernel_rfl) (by kernel_rfl) trivial ?_
  rcases bb (growth_standIsDefined b.Low) with h1 | h1
  ·rcases bb (growth_standIsDefined b.High) with h2 | h2
   ·rcases bb (b.Low.Age == b.High.Age) with h3 | h3
    ·rcases bb (decide (b.Low.Shoots ≤ b.High.Shoots)) with h4 | h4
     ·rcases bb (decide (b.Low.Height ≤ b.High.Height)) with h5 | h5
      ·have e : growth_boxIsDefined b = decide (b.Low.Girth ≤ b.High.Girth) := by unfold growth_boxIsDefined; rw [h1, cT, h2, cT, h3, cT, h4, cT, h5, cT]; first | done | rfl
       rw [e]
       exact FSat.d pfT 10 (hR 4 ((hB (hC (.bool (growth_standIsDefined b.Low))) true) :: hE :: hE :: hE :: (hB (hC (.bool (growth_standIsDefined b.High))) true) :: (hR 8 (hT :: (hR 8 (hT :: (hR 8 (hT :: (hR 11 []))))))))) [] (pc (growth_standIsDefined_fc b.Low) <| pc h1 <| pc (growth_standIsDefined_fc b.High) <| pc h2 <| pc h3 <| pc h4 <| pc h5 <| pn) (by kernel_rfl) (by kernel_rfl)
      ·have e : growth_boxIsDefined b = false := by unfold growth_boxIsDefined; rw [h1, cT, h2, cT, h3, cT, h4, cT, h5, cF]; first | done | rfl
       rw [e]
       exact FSat.d pfT 10 (hR 4 ((hB (hC (.bool (growth_standIsDefined b.Low))) true) :: hE :: hE :: hE :: (hB (hC (.bool (growth_standIsDefined b.High))) true) :: (hR 8 (hT :: (hR 8 (hT :: (hR 8 (hF :: (hR 4 []))))))))) [] (pc (growth_standIsDefined_fc b.Low) <| pc h1 <| pc (growth_standIsDefined_fc b.High) <| pc h2 <| pc h3 <| pc h4 <| pc h5 <| pn) (by kernel_rfl) (by kernel_rfl)
     ·have e : growth_boxIsDefined b = false := by unfold growth_boxIsDefined; rw [h1, cT, h2, cT, h3, cT, h4, cF]; first | done | rfl
      rw [e]
      exact FSat.d pfT 10 (hR 4 ((hB (hC (.bool (growth_standIsDefined b.Low))) true) :: hE :: hE :: hE :: (hB (hC (.bool (growth_standIsDefined b.High))) true) :: (hR 8 (hT :: (hR 8 (hF :: (hR 6 []))))))) [] (pc (growth_standIsDefined_fc b.Low) <| pc h1 <| pc (growth_standIsDefined_fc b.High) <| pc h2 <| pc h3 <| pc h4 <| pn) (by kernel_rfl) (by kernel_rfl)
    ·have e : growth_boxIsDefined b = false := by unfold growth_boxIsDefined; rw [h1, cT, h2, cT, h3, cF]; first | done | rfl
     rw [e]
     exact FSat.d pfT 10 (hR 4 ((hB (hC (.bool (growth_standIsDefined b.Low))) true) :: hE :: hE :: hE :: (hB (hC (.bool (growth_standIsDefined b.High))) true) :: (hR 8 (hF :: (hR 8 []))))) [] (pc (growth_standIsDefined_fc b.Low) <| pc h1 <| pc (growth_standIsDefined_fc b.High) <| pc h2 <| pc h3 <| pn) (by kernel_rfl) (by kernel_rfl)
   ·have e : growth_boxIsDefined b = false := by unfold growth_boxIsDefined; rw [h1, cT, h2, cF]; first | done | rfl
    rw [e]
    exact FSat.d pfT 10 (hR 4 ((hB (hC (.bool (growth_standIsDefined b.Low))) true) :: hE :: hE :: hE :: (hB (hC (.bool (growth_standIsDefined b.High))) false) :: (hR 10 []))) [] (pc (growth_standIsDefined_fc b.Low) <| pc h1 <| pc (growth_standIsDefined_fc b.High) <| pc h2 <| pn) (by kernel_rfl) (by kernel_rfl)
  ·have e : growth_boxIsDefined b = false := by unfold growth_boxIsDefined; rw [h1, cF]; first | done | rfl
   rw [e]
   exact FSat.d pfT 10 (hR 4 ((hB (hC (.bool (growth_standIsDefined b.Low))) false) :: (hR 11 []))) [] (pc (growth_standIsDefined_fc b.Low) <| pc h1 <| pn) (by kernel_rfl) (by kernel_rfl)

/- greenhew/growth.samplesAreDefined$1 -/
abbrev A_growth_samplesAreDefined_1 (m : XSample) : List Value := [.agg #[I (m.Kind), I (m.Span.Low), I (m.Span.High)]]
noncomputable def growth_samplesAreDefined_1 (m : XSample) : Bool :=
  bif decide (m.Kind ≥ 1) then (bif decide (m.Kind ≤ 3) then decide (m.Span.Low ≤ m.Span.High)
    else false)
  else false
theorem growth_samplesAreDefined_1_fc (m : XSample) : FC P GG 111 (A_growth_samplesAreDefined_1 m) [] (.bool (growth_samplesAreDefined_1 m)) := by
  refine FC.of_fsat 20 100 Tryd.func111 (by kernel_rfl) (by kernel_rfl) (by kernel_rfl) trivial ?_
  rcases bb (decide (m.Kind ≥ 1)) with h1 | h1
  ·rcases bb (decide (m.Kind ≤ 3)) with h2 | h2
   ·have e : growth_samplesAreDefined_1 m = decide (m.Span.Low ≤ m.Span.High) := by unfold growth_samplesAreDefined_1; rw [h1, cT, h2, cT]; first | done | rfl
    rw [e]
    exact FSat.d pfT 10 (hR 4 (hT :: hE :: hE :: hE :: hT :: (hR 11 []))) [] (pc h1 <| pc h2 <| pn) (by kernel_rfl) (by kernel_rfl)
   ·have e : growth_samplesAreDefined_1 m = false := by unfold growth_samplesAreDefined_1; rw [h1, cT, h2, cF]; first | done | rfl
    rw [e]
    exact FSat.d pfT 10 (hR 4 (hT :: hE :: hE :: hE :: hF :: (hR 4 []))) [] (pc h1 <| pc h2 <| pn) (by kernel_rfl) (by kernel_rfl)
  ·have e : growth_samplesAreDefined_1 m = false := by unfold growth_samplesAreDefined_1; rw [h1, cF]; first | done | rfl
   rw [e]
   exact FSat.d pfT 10 (hR 4 (hF :: (hR 5 []))) [] (pc h1 <| pn) (by kernel_rfl) (by kernel_rfl)

/- greenhew/growth.all[greenhew/api.Sample] -/
noncomputable abbrev z8i0 (l : List XSample) (v9 : Int) : Hint := (hL (.agg #[I ((at_ zXSample l v9).Kind), I (((at_ zXSample l v9).Span).Low), I (((at_ zXSample l v9).Span).High)]))
noncomputable abbrev z8i1 (l : List XSample) (v9 : Int) : Hint := (hB (hC (.bool (growth_samplesAreDefined_1 (⟨(at_ zXSample l v9).Kind, ((at_ zXSample l v9).Span)⟩ : XSample)))) true)
theorem z8p2 (l : List XSample) (v9 : Int) : FC P GG 111 (A_growth_samplesAreDefined_1 (⟨(at_ zXSample l v9).Kind, ((at_ zXSample l v9).Span)⟩ : XSample)) [] (.bool (growth_samplesAreDefined_1 (⟨(at_ zXSample l v9).Kind, ((at_ zXSample l v9).Span)⟩ : XSample))) := growth_samplesAreDefined_1_fc (⟨(at_ zXSample l v9).Kind, ((at_ zXSample l v9).Span)⟩ : XSample)
abbrev z8r3 (l : List XSample) (v9 : Int) : Prop := RowLd P 86 (encL cXSample l) (0 + v9.toNat * 3) (.agg #[I ((at_ zXSample l v9).Kind), I (((at_ zXSample l v9).Span).Low), I (((at_ zXSample l v9).Span).High)])
noncomputable abbrev z8i4 (l : List XSample) (v9 : Int) : Hint := (hB (hC (.bool (growth_samplesAreDefined_1 (⟨(at_ zXSample l v9).Kind, ((at_ zXSample l v9).Span)⟩ : XSample)))) false)
abbrev A_api_Sample (l : List XSample) (q10 : Nat) : List Value := [.slice (some ⟨10, 0, none⟩) (l.length) (q10), .func (.func 111) #[] #[]]
abbrev K_api_Sample (l : List XSample) : List (Nat × List Value) := [(10, encL cXSample l)]
noncomputable def api_Sample_L (fu : Nat) (l : List XSample) : Nat → (Bool → Int → Option Bool)
  | 0 => (fun _ _ => none)
  | fk + 1 => (fun v4 v9 => bif decide (v9 < ((l.length : Nat) : Int)) then (bif decide (0 ≤ v9 ∧ v9 < ((l.length : Nat) : Int)) then (bif growth_samplesAreDefined_1 (⟨(at_ zXSample l v9).Kind, ((at_ zXSample l v9).Span)⟩ : XSample) then api_Sample_L fu l fk v4 (W (v9 + 1))
        else some false) else none)
      else some true)
theorem api_Sample_L_s0 (fu : Nat) (l : List XSample) (fk : Nat) (v4 : Bool) (v9 : Int) : api_Sample_L fu l (fk + 1) v4 v9 = (bif decide (v9 < ((l.length : Nat) : Int)) then (bif decide (0 ≤ v9 ∧ v9 < ((l.length : Nat) : Int)) then (bif growth_samplesAreDefined_1 (⟨(at_ zXSample l v9).Kind, ((at_ zXSample l v9).Span)⟩ : XSample) then api_Sample_L fu l fk v4 (W (v9 + 1))
        else some false) else none)
      else some true) := rfl
noncomputable def api_Sample (fu : Nat) (l : List XSample) : Option Bool :=
  api_Sample_L fu l fu false 0
theorem api_Sample_L_fs (fu : Nat) (l : List XSample) (q10 : Nat) : ∀ fk, (∀ (v4 : Bool) (v9 : Int) (r : Bool), api_Sample_L fu l fk v4 v9 = some r → FSat P GG Tryd.f110 (.bool (r)) (ids (looses (K_api_Sample l))) 18 [.lp (cA (bodyOf Tryd.f110) [1, 0, 1, 0, 0]), .blk 0, .code (cA (bodyOf Tryd.f110) [1, 1])] (tOf 18 [(1, .func (.func 111) #[] #[]), (4, .bool (v4)), (7, .slice (some ⟨10, 0, none⟩) (l.length) (q10)), (8, I (((l.length : Nat) : Int))), (9, I (v9))]) (mOf 100 [(0, .rom [I (1), I (2), I (3)] .glob), (10, .rom (encL cXSample l) .loose)])) := by
  intro fk
  induction fk with
  | zero => exact fun _ _ r hh => by cases hh
  | succ fk ih =>
    · intro v4 v9 r hh
      rw [api_Sample_L_s0] at hh
      rcases bb (decide (v9 < ((l.length : Nat) : Int))) with h1 | h1
      ·rw [h1, cT] at hh
       rcases bb (decide (0 ≤ v9 ∧ v9 < ((l.length : Nat) : Int))) with h2 | h2
       rotate_left
       ·rw [h2, cF] at hh; cases hh
       ·rw [h2, cT] at hh
        rcases bb (growth_samplesAreDefined_1 (⟨(at_ zXSample l v9).Kind, ((at_ zXSample l v9).Span)⟩ : XSample)) with h3 | h3
        ·rw [h3, cT] at hh
         have nx := ih v4 (W (v9 + 1)) r hh
         refine FSat.s pfT 22 (hT :: hX :: (z8i0 l v9) :: (hR 4 [(z8i1 l v9), hE, hE, hE])) [.go, .st [1, 4, 7, 8, 9] [0, 10]] (pc h1 <| pt (0 ≤ v9 ∧ v9 < ((l.length : Nat) : Int)) (of_decide_eq_true h2) <| pt (z8r3 l v9) (RowLd.elem cXSample_len _ (.inl ⟨_, rfl⟩) rfl rfl _ _ (of_decide_eq_true h2)) <| pc (z8p2 l v9) <| pc h3 <| pn) (by kernel_rfl) 100 (by kernel_rfl) ?_ nx
         exact ⟨PinL.lit (by kernel_rfl), PinL.pf (encL_pf cXSample_pf _), trivial⟩
        ·rw [h3, cF] at hh
         rw [← sI hh]
         exact FSat.d pfT 21 (hT :: hX :: (z8i0 l v9) :: (hR 4 [(z8i4 l v9), hE, hE])) [.go] (pc h1 <| pt (0 ≤ v9 ∧ v9 < ((l.length : Nat) : Int)) (of_decide_eq_true h2) <| pt (z8r3 l v9) (RowLd.elem cXSample_len _ (.inl ⟨_, rfl⟩) rfl rfl _ _ (of_decide_eq_true h2)) <| pc (z8p2 l v9) <| pc h3 <| pn) (by kernel_rfl) (by kernel_rfl)
      ·rw [h1, cF] at hh
       rw [← sI hh]
       exact FSat.d pfT 14 [hF, hE] [.go] (pc h1 <| pn) (by kernel_rfl) (by kernel_rfl)
theorem api_Sample_fc (fu : Nat) (l : List XSample) (q10 : Nat) (r : Bool) (hh : api_Sample fu l = some r) : FC P GG 110 (A_api_Sample l q10) (K_api_Sample l) (.bool (r)) := by
  refine FC.of_fsat 18 100 Tryd.func110 (by kernel_rfl) (by kernel_rfl) (by kernel_rfl) ⟨PinL.pf (encL_pf cXSample_pf _), trivial⟩ ?_
  unfold api_Sample at hh
  have nx := api_Sample_L_fs fu l q10 fu false 0 r hh
  refine FSat.s pfT 13 (hR 4 []) [.st [1, 4, 7, 8, 9] [0, 10]] (pn) (by kernel_rfl) 100 (by kernel_rfl) ?_ nx
  exact ⟨PinL.lit (by kernel_rfl), PinL.pf (encL_pf cXSample_pf _), trivial⟩

/- greenhew/growth.samplesAreDefined -/
noncomputable abbrev z7i0 (l : List XSample) (q10 : Nat) (x1 : Bool) : Hint := (hM (.bool (x1)) (.bool (x1)) (A_api_Sample l q10) (K_api_Sample l) [(10, 10, 0)])
theorem z7p1 (l : List XSample) (q10 : Nat) : VRs (Ren.emb [(10, 10, 0)]) (A_api_Sample l q10) [.slice (some ⟨10, 0, none⟩) (l.length) (q10), .func (.func 111) #[] #[]] := (.cons _ _ _ _ (.slc 10 0 _ _ _ ⟨10, 0, 0, 0⟩ rfl (.inl rfl)) (.cons _ _ _ _ (.func _ _ _ _ _ (fun _ h => by cases h) .nil .nil) .nil))
abbrev z7r2 (l : List XSample) : Prop := MemAt (Ren.emb [(10, 10, 0)]) (encL cXSample l) 0 (encL cXSample l) ∧ True
abbrev A_growth_samplesAreDefined (l : List XSample) (q10 : Nat) : List Value := [.slice (some ⟨10, 0, none⟩) (l.length) (q10)]
abbrev K_growth_samplesAreDefined (l : List XSample) : List (Nat × List Value) := [(10, encL cXSample l)]
noncomputable def growth_samplesAreDefined (fu : Nat) (l : List XSample) : Option Bool :=
  Option.bind (api_Sample fu l) fun x1 =>
  some x1
theorem growth_samplesAreDefined_fc (fu : Nat) (l : List XSample) (q10 : Nat) (r : Bool) (hh : growth_samplesAreDefined fu l = some r) : FC P GG 78 (A_growth_samplesAreDefined l q10) (K_growth_samplesAreDefined l) (.bool (r)) := by
  refine FC.of_fsat 5 100 Tryd.func78 (by kernel_rfl) (by kernel_rfl) (by kernel_rfl) ⟨PinL.pf (encL_pf cXSample_pf _), trivial⟩ ?_
  unfold growth_samplesAreDefined at hh
  cases h1 : api_Sample fu l with
  | none => rw [h1, oN] at hh; cases hh
  | some x1 =>
   rw [h1, oS] at hh
   rw [← sI hh]
   exact FSat.d pfT 10 [hE, hE, (z7i0 l q10 x1), hE] [] (pc (api_Sample_fc fu l q10 x1 h1) <| pc (z7p1 l q10) <| pt (z7r2 l) (⟨MemAt.same _ (encL_pf cXSample_pf _), trivial⟩) <| pt (VR (Ren.emb [(10, 10, 0)]) (.bool (x1)) (.bool (x1))) (selfB_self 9 _ rfl _) <| pn) (by kernel_rfl) (by kernel_rfl)

/- greenhew/growth.number -/
abbrev A_growth_number (k : Int) : List Value := [.pointer (some ⟨10, 0, none⟩), I (k)]
abbrev K_growth_number (x_0 : XStand) : List (Nat × List Value) := [(10, [I (x_0.Age), I (x_0.Shoots), I (x_0.Height), I (x_0.Girth)])]
theorem growth_number_fc_1 (x_0 : XStand) (k : Int) (h1 : (k == 1) = true) : FC P GG 100 (A_growth_number k) (K_growth_number x_0) (.pointer (some ⟨10, 1, none⟩)) := by
  refine FC.of_fsat 19 100 Tryd.func100 (by kernel_rfl) (by kernel_rfl) (by kernel_rfl) ⟨PinL.lit (by kernel_rfl), trivial⟩ ?_
  exact FSat.d pfT 16 (hE :: hE :: hT :: (hR 5 [])) [] (pc h1 <| pn) (by kernel_rfl) (by kernel_rfl)
theorem growth_number_fc_2 (x_0 : XStand) (k : Int) (h1 : (k == 1) = false) (h2 : (k == 2) = true) : FC P GG 100 (A_growth_number k) (K_growth_number x_0) (.pointer (some ⟨10, 2, none⟩)) := by
  refine FC.of_fsat 19 100 Tryd.func100 (by kernel_rfl) (by kernel_rfl) (by kernel_rfl) ⟨PinL.lit (by kernel_rfl), trivial⟩ ?_
  exact FSat.d pfT 19 (hE :: hE :: hF :: hE :: hT :: (hR 5 [])) [] (pc h1 <| pc h2 <| pn) (by kernel_rfl) (by kernel_rfl)
theorem growth_number_fc_3 (x_0 : XStand) (k : Int) (h1 : (k == 1) = false) (h2 : (k == 2) = false) : FC P GG 100 (A_growth_number k) (K_growth_number x_0) (.pointer (some ⟨10, 3, none⟩)) := by
  refine FC.of_fsat 19 100 Tryd.func100 (by kernel_rfl) (by kernel_rfl) (by kernel_rfl) ⟨PinL.lit (by kernel_rfl), trivial⟩ ?_
  exact FSat.d pfT 19 (hE :: hE :: hF :: hE :: hF :: (hR 5 [])) [] (pc h1 <| pc h2 <| pn) (by kernel_rfl) (by kernel_rfl)

/- greenhew/growth.keep -/
noncomputable abbrev z11i0 (b : XBox) (k : Int) : Hint := (hM (.pointer (some ⟨10, 1, none⟩)) (.pointer (some ⟨100, 1, none⟩)) (A_growth_number k) (K_growth_number b.Low) [(10, 100, 0)])
noncomputable abbrev z11i1 (b : XBox) (k : Int) : Hint := (hM (.pointer (some ⟨10, 1, none⟩)) (.pointer (some ⟨100, 5, none⟩)) (A_growth_number k) (K_growth_number b.High) [(10, 100, 4)])
theorem z11p2 (k : Int) : VRs (Ren.emb [(10, 100, 0)]) (A_growth_number k) [.pointer (some ⟨100, 0, none⟩), I (k)] := (.cons _ _ _ _ (.ptr 10 0 ⟨100, 0, 0, 0⟩ rfl) (.cons _ _ _ _ (VR.of_pf rfl) .nil))
theorem z11p3 (b : XBox) : MemAt (Ren.emb [(10, 100, 0)]) [I (b.Low.Age), I (b.Low.Shoots), I (b.Low.Height), I (b.Low.Girth)] 0 [I (b.Low.Age), I (b.Low.Shoots), I (b.Low.Height), I (b.Low.Girth), I (b.High.Age), I (b.High.Shoots), I (b.High.Height), I (b.High.Girth)] ∧ True := ⟨MemAt.of (.cons _ _ _ _ (VR.of_pf rfl) (.cons _ _ _ _ (VR.of_pf rfl) (.cons _ _ _ _ (VR.of_pf rfl) (.cons _ _ _ _ (VR.of_pf rfl) .nil)))), trivial⟩
theorem z11p4 (k : Int) : VRs (Ren.emb [(10, 100, 4)]) (A_growth_number k) [.pointer (some ⟨100, 4, none⟩), I (k)] := (.cons _ _ _ _ (.ptr 10 0 ⟨100, 4, 0, 0⟩ rfl) (.cons _ _ _ _ (VR.of_pf rfl) .nil))
theorem z11p5 (b : XBox) : MemAt (Ren.emb [(10, 100, 4)]) [I (b.High.Age), I (b.High.Shoots), I (b.High.Height), I (b.High.Girth)] 4 [I (b.Low.Age), I (b.Low.Shoots), I (b.Low.Height), I (b.Low.Girth), I (b.High.Age), I (b.High.Shoots), I (b.High.Height), I (b.High.Girth)] ∧ True := ⟨MemAt.of (.cons _ _ _ _ (VR.of_pf rfl) (.cons _ _ _ _ (VR.of_pf rfl) (.cons _ _ _ _ (VR.of_pf rfl) (.cons _ _ _ _ (VR.of_pf rfl) .nil)))), trivial⟩
abbrev z11r6 (b : XBox) (k : Int) : Prop := FC P GG 100 (A_growth_number k) (K_growth_number b.Low) (.pointer (some ⟨10, 1, none⟩))
abbrev z11r7 : Prop := VR (Ren.emb [(10, 100, 0)]) (.pointer (some ⟨10, 1, none⟩)) (.pointer (some ⟨100, 1, none⟩))
abbrev z11r8 (b : XBox) (k : Int) : Prop := FC P GG 100 (A_growth_number k) (K_growth_number b.High) (.pointer (some ⟨10, 1, none⟩))
abbrev z11r9 : Prop := VR (Ren.emb [(10, 100, 4)]) (.pointer (some ⟨10, 1, none⟩)) (.pointer (some ⟨100, 5, none⟩))
abbrev z11r10 : Prop := (.pointer (some ⟨100, 5, none⟩) : Value) = .pointer (some ⟨100, 5, none⟩)
abbrev z11r11 : Prop := (.pointer (some ⟨101, 1, none⟩) : Value) = .pointer (some ⟨101, 1, none⟩)
abbrev z11r12 (b : XBox) (s : XSpan) : Prop := (I (imin b.High.Shoots s.High) : Value) = I (imin b.High.Shoots s.High)
noncomputable abbrev z11i13 (b : XBox) (k : Int) : Hint := (hM (.pointer (some ⟨10, 2, none⟩)) (.pointer (some ⟨100, 2, none⟩)) (A_growth_number k) (K_growth_number b.Low) [(10, 100, 0)])
noncomputable abbrev z11i14 (b : XBox) (k : Int) : Hint := (hM (.pointer (some ⟨10, 2, none⟩)) (.pointer (some ⟨100, 6, none⟩)) (A_growth_number k) (K_growth_number b.High) [(10, 100, 4)])
abbrev z11r15 (b : XBox) (k : Int) : Prop := FC P GG 100 (A_growth_number k) (K_growth_number b.Low) (.pointer (some ⟨10, 2, none⟩))
abbrev z11r16 : Prop := VR (Ren.emb [(10, 100, 0)]) (.pointer (some ⟨10, 2, none⟩)) (.pointer (some ⟨100, 2, none⟩))
abbrev z11r17 (b : XBox) (k : Int) : Prop := FC P GG 100 (A_growth_number k) (K_growth_number b.High) (.pointer (some ⟨10, 2, none⟩))
abbrev z11r18 : Prop := VR (Ren.emb [(10, 100, 4)]) (.pointer (some ⟨10, 2, none⟩)) (.pointer (some ⟨100, 6, none⟩))
abbrev z11r19 : Prop := (.pointer (some ⟨100, 6, none⟩) : Value) = .pointer (some ⟨100, 6, none⟩)
abbrev z11r20 (b : XBox) (s : XSpan) : Prop := (I (imin b.High.Height s.High) : Value) = I (imin b.High.Height s.High)
noncomputable abbrev z11i21 (b : XBox) (k : Int) : Hint := (hM (.pointer (some ⟨10, 3, none⟩)) (.pointer (some ⟨100, 3, none⟩)) (A_growth_number k) (K_growth_number b.Low) [(10, 100, 0)])
noncomputable abbrev z11i22 (b : XBox) (k : Int) : Hint := (hM (.pointer (some ⟨10, 3, none⟩)) (.pointer (some ⟨100, 7, none⟩)) (A_growth_number k) (K_growth_number b.High) [(10, 100, 4)])
abbrev z11r23 (b : XBox) (k : Int) : Prop := FC P GG 100 (A_growth_number k) (K_growth_number b.Low) (.pointer (some ⟨10, 3, none⟩))
abbrev z11r24 : Prop := VR (Ren.emb [(10, 100, 0)]) (.pointer (some ⟨10, 3, none⟩)) (.pointer (some ⟨100, 3, none⟩))
abbrev z11r25 (b : XBox) (k : Int) : Prop := FC P GG 100 (A_growth_number k) (K_growth_number b.High) (.pointer (some ⟨10, 3, none⟩))
abbrev z11r26 : Prop := VR (Ren.emb [(10, 100, 4)]) (.pointer (some ⟨10, 3, none⟩)) (.pointer (some ⟨100, 7, none⟩))
abbrev z11r27 : Prop := (.pointer (some ⟨100, 7, none⟩) : Value) = .pointer (some ⟨100, 7, none⟩)
abbrev z11r28 (b : XBox) (s : XSpan) : Prop := (I (imin b.High.Girth s.High) : Value) = I (imin b.High.Girth s.High)
abbrev A_growth_keep (b : XBox) (k : Int) (s : XSpan) : List Value := [.agg #[I (b.Low.Age), I (b.Low.Shoots), I (b.Low.Height), I (b.Low.Girth), I (b.High.Age), I (b.High.Shoots), I (b.High.Height), I (b.High.Girth)], I (k), .agg #[I (s.Low), I (s.High)]]
noncomputable def growth_keep (b : XBox) (k : Int) (s : XSpan) : XBox × Bool :=
  bif k == 1 then (bif decide ((imax b.Low.Shoots s.Low) > (imin b.High.Shoots s.High)) then ((⟨(⟨0, 0, 0, 0⟩ : XStand), (⟨0, 0, 0, 0⟩ : XStand)⟩ : XBox), false)
    else ((⟨(⟨b.Low.Age, imax b.Low.Shoots s.Low, b.Low.Height, b.Low.Girth⟩ : XStand), (⟨b.High.Age, imin b.High.Shoots s.High, b.High.Height, b.High.Girth⟩ : XStand)⟩ : XBox), true))
  else (bif k == 2 then (bif decide ((imax b.Low.Height s.Low) > (imin b.High.Height s.High)) then ((⟨(⟨0, 0, 0, 0⟩ : XStand), (⟨0, 0, 0, 0⟩ : XStand)⟩ : XBox), false)
      else ((⟨(⟨b.Low.Age, b.Low.Shoots, imax b.Low.Height s.Low, b.Low.Girth⟩ : XStand), (⟨b.High.Age, b.High.Shoots, imin b.High.Height s.High, b.High.Girth⟩ : XStand)⟩ : XBox), true))
    else (bif decide ((imax b.Low.Girth s.Low) > (imin b.High.Girth s.High)) then ((⟨(⟨0, 0, 0, 0⟩ : XStand), (⟨0, 0, 0, 0⟩ : XStand)⟩ : XBox), false)
      else ((⟨(⟨b.Low.Age, b.Low.Shoots, b.Low.Height, imax b.Low.Girth s.Low⟩ : XStand), (⟨b.High.Age, b.High.Shoots, b.High.Height, imin b.High.Girth s.High⟩ : XStand)⟩ : XBox), true)))
theorem growth_keep_fc (b : XBox) (k : Int) (s : XSpan) : FC P GG 103 (A_growth_keep b k s) [] (.tuple #[.agg #[I ((((growth_keep b k s).1).Low).Age), I ((((growth_keep b k s).1).Low).Shoots), I ((((growth_keep b k s).1).Low).Height), I ((((growth_keep b k s).1).Low).Girth), I ((((growth_keep b k s).1).High).Age), I ((((growth_keep b k s).1).High).Shoots), I ((((growth_keep b k s).1).High).Height), I ((((growth_keep b k s).1).High).Girth)], .bool ((growth_keep b k s).2)]) := by
  refine FC.of_fsat 41 100 Tryd.func103 (by kernel_rfl) (by kernel_rfl) (by kernel_rfl) trivial ?_
  rcases bb (k == 1) with h1 | h1
  ·rcases bb (decide ((imax b.Low.Shoots s.Low) > (imin b.High.Shoots s.High))) with h2 | h2
   ·have e : growth_keep b k s = ((⟨(⟨0, 0, 0, 0⟩ : XStand), (⟨0, 0, 0, 0⟩ : XStand)⟩ : XBox), false) := by unfold growth_keep; rw [h1, cT, h2, cT]; first | done | rfl
    rw [e]
    exact FSat.d pfT 18 (hR 6 ((z11i0 b k) :: hE :: hE :: (z11i1 b k) :: (hR 26 [hT, hE, hE, hE]))) [] (pt (z11r6 b k) (growth_number_fc_1 b.Low k h1) <| pc (z11p2 k) <| pc (z11p3 b) <| pt z11r7 (.ptr 10 1 ⟨100, 0, 0, 0⟩ rfl) <| pt (z11r8 b k) (growth_number_fc_1 b.High k h1) <| pc (z11p4 k) <| pc (z11p5 b) <| pt z11r9 (.ptr 10 1 ⟨100, 4, 0, 0⟩ rfl) <| pt z11r10 rfl <| pt z11r11 rfl <| pt ((I (s.High) : Value) = I (s.High)) rfl <| pt (z11r12 b s) rfl <| pc h2 <| pn) (by kernel_rfl) (by kernel_rfl)
   ·have e : growth_keep b k s = ((⟨(⟨b.Low.Age, imax b.Low.Shoots s.Low, b.Low.Height, b.Low.Girth⟩ : XStand), (⟨b.High.Age, imin b.High.Shoots s.High, b.High.Height, b.High.Girth⟩ : XStand)⟩ : XBox), true) := by unfold growth_keep; rw [h1, cT, h2, cF]; first | done | rfl
    rw [e]
    exact FSat.d pfT 19 (hR 6 ((z11i0 b k) :: hE :: hE :: (z11i1 b k) :: (hR 26 [hF, hE, hE, hE]))) [] (pt (z11r6 b k) (growth_number_fc_1 b.Low k h1) <| pc (z11p2 k) <| pc (z11p3 b) <| pt z11r7 (.ptr 10 1 ⟨100, 0, 0, 0⟩ rfl) <| pt (z11r8 b k) (growth_number_fc_1 b.High k h1) <| pc (z11p4 k) <| pc (z11p5 b) <| pt z11r9 (.ptr 10 1 ⟨100, 4, 0, 0⟩ rfl) <| pt z11r10 rfl <| pt z11r11 rfl <| pt ((I (s.High) : Value) = I (s.High)) rfl <| pt (z11r12 b s) rfl <| pc h2 <| pn) (by kernel_rfl) (by kernel_rfl)
  ·rcases bb (k == 2) with h2 | h2
   ·rcases bb (decide ((imax b.Low.Height s.Low) > (imin b.High.Height s.High))) with h3 | h3
    ·have e : growth_keep b k s = ((⟨(⟨0, 0, 0, 0⟩ : XStand), (⟨0, 0, 0, 0⟩ : XStand)⟩ : XBox), false) := by unfold growth_keep; rw [h1, cF, h2, cT, h3, cT]; first | done | rfl
     rw [e]
     exact FSat.d pfT 18 (hR 6 ((z11i13 b k) :: hE :: hE :: (z11i14 b k) :: (hR 26 [hT, hE, hE, hE]))) [] (pt (z11r15 b k) (growth_number_fc_2 b.Low k h1 h2) <| pc (z11p2 k) <| pc (z11p3 b) <| pt z11r16 (.ptr 10 2 ⟨100, 0, 0, 0⟩ rfl) <| pt (z11r17 b k) (growth_number_fc_2 b.High k h1 h2) <| pc (z11p4 k) <| pc (z11p5 b) <| pt z11r18 (.ptr 10 2 ⟨100, 4, 0, 0⟩ rfl) <| pt z11r19 rfl <| pt z11r11 rfl <| pt ((I (s.High) : Value) = I (s.High)) rfl <| pt (z11r20 b s) rfl <| pc h3 <| pn) (by kernel_rfl) (by kernel_rfl)
    ·have e : growth_keep b k s = ((⟨(⟨b.Low.Age, b.Low.Shoots, imax b.Low.Height s.Low, b.Low.Girth⟩ : XStand), (⟨b.High.Age, b.High.Shoots, imin b.High.Height s.High, b.High.Girth⟩ : XStand)⟩ : XBox), true) := by unfold growth_keep; rw [h1, cF, h2, cT, h3, cF]; first | done | rfl
     rw [e]
     exact FSat.d pfT 19 (hR 6 ((z11i13 b k) :: hE :: hE :: (z11i14 b k) :: (hR 26 [hF, hE, hE, hE]))) [] (pt (z11r15 b k) (growth_number_fc_2 b.Low k h1 h2) <| pc (z11p2 k) <| pc (z11p3 b) <| pt z11r16 (.ptr 10 2 ⟨100, 0, 0, 0⟩ rfl) <| pt (z11r17 b k) (growth_number_fc_2 b.High k h1 h2) <| pc (z11p4 k) <| pc (z11p5 b) <| pt z11r18 (.ptr 10 2 ⟨100, 4, 0, 0⟩ rfl) <| pt z11r19 rfl <| pt z11r11 rfl <| pt ((I (s.High) : Value) = I (s.High)) rfl <| pt (z11r20 b s) rfl <| pc h3 <| pn) (by kernel_rfl) (by kernel_rfl)
   ·rcases bb (decide ((imax b.Low.Girth s.Low) > (imin b.High.Girth s.High))) with h3 | h3
    ·have e : growth_keep b k s = ((⟨(⟨0, 0, 0, 0⟩ : XStand), (⟨0, 0, 0, 0⟩ : XStand)⟩ : XBox), false) := by unfold growth_keep; rw [h1, cF, h2, cF, h3, cT]; first | done | rfl
     rw [e]
     exact FSat.d pfT 18 (hR 6 ((z11i21 b k) :: hE :: hE :: (z11i22 b k) :: (hR 26 [hT, hE, hE, hE]))) [] (pt (z11r23 b k) (growth_number_fc_3 b.Low k h1 h2) <| pc (z11p2 k) <| pc (z11p3 b) <| pt z11r24 (.ptr 10 3 ⟨100, 0, 0, 0⟩ rfl) <| pt (z11r25 b k) (growth_number_fc_3 b.High k h1 h2) <| pc (z11p4 k) <| pc (z11p5 b) <| pt z11r26 (.ptr 10 3 ⟨100, 4, 0, 0⟩ rfl) <| pt z11r27 rfl <| pt z11r11 rfl <| pt ((I (s.High) : Value) = I (s.High)) rfl <| pt (z11r28 b s) rfl <| pc h3 <| pn) (by kernel_rfl) (by kernel_rfl)
    ·have e : growth_keep b k s = ((⟨(⟨b.Low.Age, b.Low.Shoots, b.Low.Height, imax b.Low.Girth s.Low⟩ : XStand), (⟨b.High.Age, b.High.Shoots, b.High.Height, imin b.High.Girth s.High⟩ : XStand)⟩ : XBox), true) := by unfold growth_keep; rw [h1, cF, h2, cF, h3, cF]; first | done | rfl
     rw [e]
     exact FSat.d pfT 19 (hR 6 ((z11i21 b k) :: hE :: hE :: (z11i22 b k) :: (hR 26 [hF, hE, hE, hE]))) [] (pt (z11r23 b k) (growth_number_fc_3 b.Low k h1 h2) <| pc (z11p2 k) <| pc (z11p3 b) <| pt z11r24 (.ptr 10 3 ⟨100, 0, 0, 0⟩ rfl) <| pt (z11r25 b k) (growth_number_fc_3 b.High k h1 h2) <| pc (z11p4 k) <| pc (z11p5 b) <| pt z11r26 (.ptr 10 3 ⟨100, 4, 0, 0⟩ rfl) <| pt z11r27 rfl <| pt z11r11 rfl <| pt ((I (s.High) : Value) = I (s.High)) rfl <| pt (z11r28 b s) rfl <| pc h3 <| pn) (by kernel_rfl) (by kernel_rfl)

/- greenhew/growth.narrow -/
noncomputable abbrev z10i0 (samples : List XSample) (v11 : Int) : Hint := (hL (.agg #[I ((at_ zXSample samples v11).Kind), I (((at_ zXSample samples v11).Span).Low), I (((at_ zXSample samples v11).Span).High)]))
noncomputable abbrev z10i1 (samples : List XSample) (v11 m100_0 m100_1 m100_2 m100_3 m100_4 m100_5 m100_6 m100_7 : Int) : Hint := (hC (.tuple #[.agg #[I ((((growth_keep (⟨(⟨m100_0, m100_1, m100_2, m100_3⟩ : XStand), (⟨m100_4, m100_5, m100_6, m100_7⟩ : XStand)⟩ : XBox) ((at_ zXSample samples v11).Kind) ((at_ zXSample samples v11).Span)).1).Low).Age), I ((((growth_keep (⟨(⟨m100_0, m100_1, m100_2, m100_3⟩ : XStand), (⟨m100_4, m100_5, m100_6, m100_7⟩ : XStand)⟩ : XBox) ((at_ zXSample samples v11).Kind) ((at_ zXSample samples v11).Span)).1).Low).Shoots), I ((((growth_keep (⟨(⟨m100_0, m100_1, m100_2, m100_3⟩ : XStand), (⟨m100_4, m100_5, m100_6, m100_7⟩ : XStand)⟩ : XBox) ((at_ zXSample samples v11).Kind) ((at_ zXSample samples v11).Span)).1).Low).Height), I ((((growth_keep (⟨(⟨m100_0, m100_1, m100_2, m100_3⟩ : XStand), (⟨m100_4, m100_5, m100_6, m100_7⟩ : XStand)⟩ : XBox) ((at_ zXSample samples v11).Kind) ((at_ zXSample samples v11).Span)).1).Low).Girth), I ((((growth_keep (⟨(⟨m100_0, m100_1, m100_2, m100_3⟩ : XStand), (⟨m100_4, m100_5, m100_6, m100_7⟩ : XStand)⟩ : XBox) ((at_ zXSample samples v11).Kind) ((at_ zXSample samples v11).Span)).1).High).Age), I ((((growth_keep (⟨(⟨m100_0, m100_1, m100_2, m100_3⟩ : XStand), (⟨m100_4, m100_5, m100_6, m100_7⟩ : XStand)⟩ : XBox) ((at_ zXSample samples v11).Kind) ((at_ zXSample samples v11).Span)).1).High).Shoots), I ((((growth_keep (⟨(⟨m100_0, m100_1, m100_2, m100_3⟩ : XStand), (⟨m100_4, m100_5, m100_6, m100_7⟩ : XStand)⟩ : XBox) ((at_ zXSample samples v11).Kind) ((at_ zXSample samples v11).Span)).1).High).Height), I ((((growth_keep (⟨(⟨m100_0, m100_1, m100_2, m100_3⟩ : XStand), (⟨m100_4, m100_5, m100_6, m100_7⟩ : XStand)⟩ : XBox) ((at_ zXSample samples v11).Kind) ((at_ zXSample samples v11).Span)).1).High).Girth)], .bool ((growth_keep (⟨(⟨m100_0, m100_1, m100_2, m100_3⟩ : XStand), (⟨m100_4, m100_5, m100_6, m100_7⟩ : XStand)⟩ : XBox) ((at_ zXSample samples v11).Kind) ((at_ zXSample samples v11).Span)).2)]))
theorem z10p2 (samples : List XSample) (v11 m100_0 m100_1 m100_2 m100_3 m100_4 m100_5 m100_6 m100_7 : Int) : FC P GG 103 (A_growth_keep (⟨(⟨m100_0, m100_1, m100_2, m100_3⟩ : XStand), (⟨m100_4, m100_5, m100_6, m100_7⟩ : XStand)⟩ : XBox) ((at_ zXSample samples v11).Kind) ((at_ zXSample samples v11).Span)) [] (.tuple #[.agg #[I ((((growth_keep (⟨(⟨m100_0, m100_1, m100_2, m100_3⟩ : XStand), (⟨m100_4, m100_5, m100_6, m100_7⟩ : XStand)⟩ : XBox) ((at_ zXSample samples v11).Kind) ((at_ zXSample samples v11).Span)).1).Low).Age), I ((((growth_keep (⟨(⟨m100_0, m100_1, m100_2, m100_3⟩ : XStand), (⟨m100_4, m100_5, m100_6, m100_7⟩ : XStand)⟩ : XBox) ((at_ zXSample samples v11).Kind) ((at_ zXSample samples v11).Span)).1).Low).Shoots), I ((((growth_keep (⟨(⟨m100_0, m100_1, m100_2, m100_3⟩ : XStand), (⟨m100_4, m100_5, m100_6, m100_7⟩ : XStand)⟩ : XBox) ((at_ zXSample samples v11).Kind) ((at_ zXSample samples v11).Span)).1).Low).Height), I ((((growth_keep (⟨(⟨m100_0, m100_1, m100_2, m100_3⟩ : XStand), (⟨m100_4, m100_5, m100_6, m100_7⟩ : XStand)⟩ : XBox) ((at_ zXSample samples v11).Kind) ((at_ zXSample samples v11).Span)).1).Low).Girth), I ((((growth_keep (⟨(⟨m100_0, m100_1, m100_2, m100_3⟩ : XStand), (⟨m100_4, m100_5, m100_6, m100_7⟩ : XStand)⟩ : XBox) ((at_ zXSample samples v11).Kind) ((at_ zXSample samples v11).Span)).1).High).Age), I ((((growth_keep (⟨(⟨m100_0, m100_1, m100_2, m100_3⟩ : XStand), (⟨m100_4, m100_5, m100_6, m100_7⟩ : XStand)⟩ : XBox) ((at_ zXSample samples v11).Kind) ((at_ zXSample samples v11).Span)).1).High).Shoots), I ((((growth_keep (⟨(⟨m100_0, m100_1, m100_2, m100_3⟩ : XStand), (⟨m100_4, m100_5, m100_6, m100_7⟩ : XStand)⟩ : XBox) ((at_ zXSample samples v11).Kind) ((at_ zXSample samples v11).Span)).1).High).Height), I ((((growth_keep (⟨(⟨m100_0, m100_1, m100_2, m100_3⟩ : XStand), (⟨m100_4, m100_5, m100_6, m100_7⟩ : XStand)⟩ : XBox) ((at_ zXSample samples v11).Kind) ((at_ zXSample samples v11).Span)).1).High).Girth)], .bool ((growth_keep (⟨(⟨m100_0, m100_1, m100_2, m100_3⟩ : XStand), (⟨m100_4, m100_5, m100_6, m100_7⟩ : XStand)⟩ : XBox) ((at_ zXSample samples v11).Kind) ((at_ zXSample samples v11).Span)).2)]) := growth_keep_fc (⟨(⟨m100_0, m100_1, m100_2, m100_3⟩ : XStand), (⟨m100_4, m100_5, m100_6, m100_7⟩ : XStand)⟩ : XBox) ((at_ zXSample samples v11).Kind) ((at_ zXSample samples v11).Span)
abbrev z10r3 (samples : List XSample) (v11 : Int) : Prop := RowLd P 86 (encL cXSample samples) (0 + v11.toNat * 3) (.agg #[I ((at_ zXSample samples v11).Kind), I (((at_ zXSample samples v11).Span).Low), I (((at_ zXSample samples v11).Span).High)])
abbrev A_growth_narrow (b : XBox) (samples : List XSample) (q10 : Nat) : List Value := [.agg #[I (b.Low.Age), I (b.Low.Shoots), I (b.Low.Height), I (b.Low.Girth), I (b.High.Age), I (b.High.Shoots), I (b.High.Height), I (b.High.Girth)], .slice (some ⟨10, 0, none⟩) (samples.length) (q10)]
abbrev K_growth_narrow (samples : List XSample) : List (Nat × List Value) := [(10, encL cXSample samples)]
noncomputable def growth_narrow_L (fu : Nat) (b : XBox) (samples : List XSample) : Nat → (Bool → Int → Int → Int → Int → Int → Int → Int → Int → Int → Option (XBox × Bool))
  | 0 => (fun _ _ _ _ _ _ _ _ _ _ => none)
  | fk + 1 => (fun v6 v11 m100_0 m100_1 m100_2 m100_3 m100_4 m100_5 m100_6 m100_7 => bif decide (v11 < ((samples.length : Nat) : Int)) then (bif decide (0 ≤ v11 ∧ v11 < ((samples.length : Nat) : Int)) then (bif (growth_keep (⟨(⟨m100_0, m100_1, m100_2, m100_3⟩ : XStand), (⟨m100_4, m100_5, m100_6, m100_7⟩ : XStand)⟩ : XBox) ((at_ zXSample samples v11).Kind) ((at_ zXSample samples v11).Span)).2 then growth_narrow_L fu b samples fk true (W (v11 + 1)) ((((growth_keep (⟨(⟨m100_0, m100_1, m100_2, m100_3⟩ : XStand), (⟨m100_4, m100_5, m100_6, m100_7⟩ : XStand)⟩ : XBox) ((at_ zXSample samples v11).Kind) ((at_ zXSample samples v11).Span)).1).Low).Age) ((((growth_keep (⟨(⟨m100_0, m100_1, m100_2, m100_3⟩ : XStand), (⟨m100_4, m100_5, m100_6, m100_7⟩ : XStand)⟩ : XBox) ((at_ zXSample samples v11).Kind) ((at_ zXSample samples v11).Span)).1).Low).Shoots) ((((growth_keep (⟨(⟨m100_0, m100_1, m100_2, m100_3⟩ : XStand), (⟨m100_4, m100_5, m100_6, m100_7⟩ : XStand)⟩ : XBox) ((at_ zXSample samples v11).Kind) ((at_ zXSample samples v11).Span)).1).Low).Height) ((((growth_keep (⟨(⟨m100_0, m100_1, m100_2, m100_3⟩ : XStand), (⟨m100_4, m100_5, m100_6, m100_7⟩ : XStand)⟩ : XBox) ((at_ zXSample samples v11).Kind) ((at_ zXSample samples v11).Span)).1).Low).Girth) ((((growth_keep (⟨(⟨m100_0, m100_1, m100_2, m100_3⟩ : XStand), (⟨m100_4, m100_5, m100_6, m100_7⟩ : XStand)⟩ : XBox) ((at_ zXSample samples v11).Kind) ((at_ zXSample samples v11).Span)).1).High).Age) ((((growth_keep (⟨(⟨m100_0, m100_1, m100_2, m100_3⟩ : XStand), (⟨m100_4, m100_5, m100_6, m100_7⟩ : XStand)⟩ : XBox) ((at_ zXSample samples v11).Kind) ((at_ zXSample samples v11).Span)).1).High).Shoots) ((((growth_keep (⟨(⟨m100_0, m100_1, m100_2, m100_3⟩ : XStand), (⟨m100_4, m100_5, m100_6, m100_7⟩ : XStand)⟩ : XBox) ((at_ zXSample samples v11).Kind) ((at_ zXSample samples v11).Span)).1).High).Height) ((((growth_keep (⟨(⟨m100_0, m100_1, m100_2, m100_3⟩ : XStand), (⟨m100_4, m100_5, m100_6, m100_7⟩ : XStand)⟩ : XBox) ((at_ zXSample samples v11).Kind) ((at_ zXSample samples v11).Span)).1).High).Girth)
        else some ((⟨(((growth_keep (⟨(⟨m100_0, m100_1, m100_2, m100_3⟩ : XStand), (⟨m100_4, m100_5, m100_6, m100_7⟩ : XStand)⟩ : XBox) ((at_ zXSample samples v11).Kind) ((at_ zXSample samples v11).Span)).1).Low), (((growth_keep (⟨(⟨m100_0, m100_1, m100_2, m100_3⟩ : XStand), (⟨m100_4, m100_5, m100_6, m100_7⟩ : XStand)⟩ : XBox) ((at_ zXSample samples v11).Kind) ((at_ zXSample samples v11).Span)).1).High)⟩ : XBox), false)) else none)
      else some ((⟨(⟨m100_0, m100_1, m100_2, m100_3⟩ : XStand), (⟨m100_4, m100_5, m100_6, m100_7⟩ : XStand)⟩ : XBox), v6))
theorem growth_narrow_L_s0 (fu : Nat) (b : XBox) (samples : List XSample) (fk : Nat) (v6 : Bool) (v11 m100_0 m100_1 m100_2 m100_3 m100_4 m100_5 m100_6 m100_7 : Int) : growth_narrow_L fu b samples (fk + 1) v6 v11 m100_0 m100_1 m100_2 m100_3 m100_4 m100_5 m100_6 m100_7 = (bif decide (v11 < ((samples.length : Nat) : Int)) then (bif decide (0 ≤ v11 ∧ v11 < ((samples.length : Nat) : Int)) then (bif (growth_keep (⟨(⟨m100_0, m100_1, m100_2, m100_3⟩ : XStand), (⟨m100_4, m100_5, m100_6, m100_7⟩ : XStand)⟩ : XBox) ((at_ zXSample samples v11).Kind) ((at_ zXSample samples v11).Span)).2 then growth_narrow_L fu b samples fk true (W (v11 + 1)) ((((growth_keep (⟨(⟨m100_0, m100_1, m100_2, m100_3⟩ : XStand), (⟨m100_4, m100_5, m100_6, m100_7⟩ : XStand)⟩ : XBox) ((at_ zXSample samples v11).Kind) ((at_ zXSample samples v11).Span)).1).Low).Age) ((((growth_keep (⟨(⟨m100_0, m100_1, m100_2, m100_3⟩ : XStand), (⟨m100_4, m100_5, m100_6, m100_7⟩ : XStand)⟩ : XBox) ((at_ zXSample samples v11).Kind) ((at_ zXSample samples v11).Span)).1).Low).Shoots) ((((growth_keep (⟨(⟨m100_0, m100_1, m100_2, m100_3⟩ : XStand), (⟨m100_4, m100_5, m100_6, m100_7⟩ : XStand)⟩ : XBox) ((at_ zXSample samples v11).Kind) ((at_ zXSample samples v11).Span)).1).Low).Height) ((((growth_keep (⟨(⟨m100_0, m100_1, m100_2, m100_3⟩ : XStand), (⟨m100_4, m100_5, m100_6, m100_7⟩ : XStand)⟩ : XBox) ((at_ zXSample samples v11).Kind) ((at_ zXSample samples v11).Span)).1).Low).Girth) ((((growth_keep (⟨(⟨m100_0, m100_1, m100_2, m100_3⟩ : XStand), (⟨m100_4, m100_5, m100_6, m100_7⟩ : XStand)⟩ : XBox) ((at_ zXSample samples v11).Kind) ((at_ zXSample samples v11).Span)).1).High).Age) ((((growth_keep (⟨(⟨m100_0, m100_1, m100_2, m100_3⟩ : XStand), (⟨m100_4, m100_5, m100_6, m100_7⟩ : XStand)⟩ : XBox) ((at_ zXSample samples v11).Kind) ((at_ zXSample samples v11).Span)).1).High).Shoots) ((((growth_keep (⟨(⟨m100_0, m100_1, m100_2, m100_3⟩ : XStand), (⟨m100_4, m100_5, m100_6, m100_7⟩ : XStand)⟩ : XBox) ((at_ zXSample samples v11).Kind) ((at_ zXSample samples v11).Span)).1).High).Height) ((((growth_keep (⟨(⟨m100_0, m100_1, m100_2, m100_3⟩ : XStand), (⟨m100_4, m100_5, m100_6, m100_7⟩ : XStand)⟩ : XBox) ((at_ zXSample samples v11).Kind) ((at_ zXSample samples v11).Span)).1).High).Girth)
        else some ((⟨(((growth_keep (⟨(⟨m100_0, m100_1, m100_2, m100_3⟩ : XStand), (⟨m100_4, m100_5, m100_6, m100_7⟩ : XStand)⟩ : XBox) ((at_ zXSample samples v11).Kind) ((at_ zXSample samples v11).Span)).1).Low), (((growth_keep (⟨(⟨m100_0, m100_1, m100_2, m100_3⟩ : XStand), (⟨m100_4, m100_5, m100_6, m100_7⟩ : XStand)⟩ : XBox) ((at_ zXSample samples v11).Kind) ((at_ zXSample samples v11).Span)).1).High)⟩ : XBox), false)) else none)
      else some ((⟨(⟨m100_0, m100_1, m100_2, m100_3⟩ : XStand), (⟨m100_4, m100_5, m100_6, m100_7⟩ : XStand)⟩ : XBox), v6)) := rfl
noncomputable def growth_narrow (fu : Nat) (b : XBox) (samples : List XSample) : Option (XBox × Bool) :=
  growth_narrow_L fu b samples fu true 0 b.Low.Age b.Low.Shoots b.Low.Height b.Low.Girth b.High.Age b.High.Shoots b.High.Height b.High.Girth
theorem growth_narrow_L_fs (fu : Nat) (b : XBox) (samples : List XSample) (q10 : Nat) : ∀ fk, (∀ (v6 : Bool) (v11 m100_0 m100_1 m100_2 m100_3 m100_4 m100_5 m100_6 m100_7 : Int) (r : XBox × Bool), growth_narrow_L fu b samples fk v6 v11 m100_0 m100_1 m100_2 m100_3 m100_4 m100_5 m100_6 m100_7 = some r → FSat P GG Tryd.f80 (.tuple #[.agg #[I (r.1.Low.Age), I (r.1.Low.Shoots), I (r.1.Low.Height), I (r.1.Low.Girth), I (r.1.High.Age), I (r.1.High.Shoots), I (r.1.High.Height), I (r.1.High.Girth)], .bool (r.2)]) (ids (looses (K_growth_narrow samples))) 29 [.lp (cA (bodyOf Tryd.f80) [1, 1, 0, 1, 0, 0]), .blk 0, .code (cA (bodyOf Tryd.f80) [1, 1, 1])] (tOf 29 [(2, .pointer (some ⟨100, 0, none⟩)), (4, .pointer (some ⟨101, 0, none⟩)), (5, .bool (false)), (6, .bool (v6)), (9, .slice (some ⟨10, 0, none⟩) (samples.length) (q10)), (10, I (((samples.length : Nat) : Int))), (11, I (v11))]) (mOf 102 [(0, .rom [I (1), I (2), I (3)] .glob), (10, .rom (encL cXSample samples) .loose), (100, .row [I (m100_0), I (m100_1), I (m100_2), I (m100_3), I (m100_4), I (m100_5), I (m100_6), I (m100_7)] 0), (101, .row [I (0), I (0), I (0), I (0), I (0), I (0), I (0), I (0)] 0)])) := by
  intro fk
  induction fk with
  | zero => exact fun _ _ _ _ _ _ _ _ _ _ r hh => by cases hh
  | succ fk ih =>
    · intro v6 v11 m100_0 m100_1 m100_2 m100_3 m100_4 m100_5 m100_6 m100_7 r hh
      rw [growth_narrow_L_s0] at hh
      rcases bb (decide (v11 < ((samples.length : Nat) : Int))) with h1 | h1
      ·rw [h1, cT] at hh
       rcases bb (decide (0 ≤ v11 ∧ v11 < ((samples.length : Nat) : Int))) with h2 | h2
       rotate_left
       ·rw [h2, cF] at hh; cases hh
       ·rw [h2, cT] at hh
        rcases bb ((growth_keep (⟨(⟨m100_0, m100_1, m100_2, m100_3⟩ : XStand), (⟨m100_4, m100_5, m100_6, m100_7⟩ : XStand)⟩ : XBox) ((at_ zXSample samples v11).Kind) ((at_ zXSample samples v11).Span)).2) with h3 | h3
        ·rw [h3, cT] at hh
         have nx := ih true (W (v11 + 1)) ((((growth_keep (⟨(⟨m100_0, m100_1, m100_2, m100_3⟩ : XStand), (⟨m100_4, m100_5, m100_6, m100_7⟩ : XStand)⟩ : XBox) ((at_ zXSample samples v11).Kind) ((at_ zXSample samples v11).Span)).1).Low).Age) ((((growth_keep (⟨(⟨m100_0, m100_1, m100_2, m100_3⟩ : XStand), (⟨m100_4, m100_5, m100_6, m100_7⟩ : XStand)⟩ : XBox) ((at_ zXSample samples v11).Kind) ((at_ zXSample samples v11).Span)).1).Low).Shoots) ((((growth_keep (⟨(⟨m100_0, m100_1, m100_2, m100_3⟩ : XStand), (⟨m100_4, m100_5, m100_6, m100_7⟩ : XStand)⟩ : XBox) ((at_ zXSample samples v11).Kind) ((at_ zXSample samples v11).Span)).1).Low).Height) ((((growth_keep (⟨(⟨m100_0, m100_1, m100_2, m100_3⟩ : XStand), (⟨m100_4, m100_5, m100_6, m100_7⟩ : XStand)⟩ : XBox) ((at_ zXSample samples v11).Kind) ((at_ zXSample samples v11).Span)).1).Low).Girth) ((((growth_keep (⟨(⟨m100_0, m100_1, m100_2, m100_3⟩ : XStand), (⟨m100_4, m100_5, m100_6, m100_7⟩ : XStand)⟩ : XBox) ((at_ zXSample samples v11).Kind) ((at_ zXSample samples v11).Span)).1).High).Age) ((((growth_keep (⟨(⟨m100_0, m100_1, m100_2, m100_3⟩ : XStand), (⟨m100_4, m100_5, m100_6, m100_7⟩ : XStand)⟩ : XBox) ((at_ zXSample samples v11).Kind) ((at_ zXSample samples v11).Span)).1).High).Shoots) ((((growth_keep (⟨(⟨m100_0, m100_1, m100_2, m100_3⟩ : XStand), (⟨m100_4, m100_5, m100_6, m100_7⟩ : XStand)⟩ : XBox) ((at_ zXSample samples v11).Kind) ((at_ zXSample samples v11).Span)).1).High).Height) ((((growth_keep (⟨(⟨m100_0, m100_1, m100_2, m100_3⟩ : XStand), (⟨m100_4, m100_5, m100_6, m100_7⟩ : XStand)⟩ : XBox) ((at_ zXSample samples v11).Kind) ((at_ zXSample samples v11).Span)).1).High).Girth) r hh
         refine FSat.s pfT 24 (hT :: hX :: (z10i0 samples v11) :: (hR 7 ((z10i1 samples v11 m100_0 m100_1 m100_2 m100_3 m100_4 m100_5 m100_6 m100_7) :: hE :: hE :: hT :: (hR 6 [])))) [.go, .st [2, 4, 5, 6, 9, 10, 11] [0, 10, 100, 101]] (pc h1 <| pt (0 ≤ v11 ∧ v11 < ((samples.length : Nat) : Int)) (of_decide_eq_true h2) <| pt (z10r3 samples v11) (RowLd.elem cXSample_len _ (.inl ⟨_, rfl⟩) rfl rfl _ _ (of_decide_eq_true h2)) <| pc (z10p2 samples v11 m100_0 m100_1 m100_2 m100_3 m100_4 m100_5 m100_6 m100_7) <| pc h3 <| pn) (by kernel_rfl) 102 (by kernel_rfl) ?_ nx
         exact ⟨PinL.lit (by kernel_rfl), PinL.pf (encL_pf cXSample_pf _), PinL.lit (by kernel_rfl), PinL.lit (by kernel_rfl), trivial⟩
        ·rw [h3, cF] at hh
         rw [← sI hh]
         exact FSat.d pfT 24 (hT :: hX :: (z10i0 samples v11) :: (hR 7 ((z10i1 samples v11 m100_0 m100_1 m100_2 m100_3 m100_4 m100_5 m100_6 m100_7) :: hE :: hE :: hF :: (hR 8 [])))) [.go] (pc h1 <| pt (0 ≤ v11 ∧ v11 < ((samples.length : Nat) : Int)) (of_decide_eq_true h2) <| pt (z10r3 samples v11) (RowLd.elem cXSample_len _ (.inl ⟨_, rfl⟩) rfl rfl _ _ (of_decide_eq_true h2)) <| pc (z10p2 samples v11 m100_0 m100_1 m100_2 m100_3 m100_4 m100_5 m100_6 m100_7) <| pc h3 <| pn) (by kernel_rfl) (by kernel_rfl)
      ·rw [h1, cF] at hh
       rw [← sI hh]
       exact FSat.d pfT 14 (hF :: (hR 4 [])) [.go] (pc h1 <| pn) (by kernel_rfl) (by kernel_rfl)
theorem growth_narrow_fc (fu : Nat) (b : XBox) (samples : List XSample) (q10 : Nat) (r : XBox × Bool) (hh : growth_narrow fu b samples = some r) : FC P GG 80 (A_growth_narrow b samples q10) (K_growth_narrow samples) (.tuple #[.agg #[I (r.1.Low.Age), I (r.1.Low.Shoots), I (r.1.Low.Height), I (r.1.Low.Girth), I (r.1.High.Age), I (r.1.High.Shoots), I (r.1.High.Height), I (r.1.High.Girth)], .bool (r.2)]) := by
  refine FC.of_fsat 29 100 Tryd.func80 (by kernel_rfl) (by kernel_rfl) (by kernel_rfl) ⟨PinL.pf (encL_pf cXSample_pf _), trivial⟩ ?_
  unfold growth_narrow at hh
  have nx := growth_narrow_L_fs fu b samples q10 fu true 0 b.Low.Age b.Low.Shoots b.Low.Height b.Low.Girth b.High.Age b.High.Shoots b.High.Height b.High.Girth r hh
  refine FSat.s pfT 15 (hR 7 []) [.st [2, 4, 5, 6, 9, 10, 11] [0, 10, 100, 101]] (pn) (by kernel_rfl) 102 (by kernel_rfl) ?_ nx
  exact ⟨PinL.lit (by kernel_rfl), PinL.pf (encL_pf cXSample_pf _), PinL.lit (by kernel_rfl), PinL.lit (by kernel_rfl), trivial⟩

/- greenhew/growth.orNone -/
abbrev A_growth_orNone (b : XBox) (left : Bool) : List Value := [.agg #[I (b.Low.Age), I (b.Low.Shoots), I (b.Low.Height), I (b.Low.Girth), I (b.High.Age), I (b.High.Shoots), I (b.High.Height), I (b.High.Girth)], .bool (left)]
noncomputable def growth_orNone (b : XBox) (left : Bool) : XBox × Int :=
  bif left then (b, 0)
  else ((⟨(⟨0, 0, 0, 0⟩ : XStand), (⟨0, 0, 0, 0⟩ : XStand)⟩ : XBox), 5)
theorem growth_orNone_fc (b : XBox) (left : Bool) : FC P GG 79 (A_growth_orNone b left) [] (.tuple #[.agg #[I ((((growth_orNone b left).1).Low).Age), I ((((growth_orNone b left).1).Low).Shoots), I ((((growth_orNone b left).1).Low).Height), I ((((growth_orNone b left).1).Low).Girth), I ((((growth_orNone b left).1).High).Age), I ((((growth_orNone b left).1).High).Shoots), I ((((growth_orNone b left).1).High).Height), I ((((growth_orNone b left).1).High).Girth)], I ((growth_orNone b left).2)]) := by
  refine FC.of_fsat 10 100 Tryd.func79 (by kernel_rfl) (by kernel_rfl) (by kernel_rfl) trivial ?_
  rcases bb (left) with h1 | h1
  ·have e : growth_orNone b left = (b, 0) := by unfold growth_orNone; rw [h1, cT]; first | done | rfl
   rw [e]
   exact FSat.d pfT 15 (hE :: hE :: hE :: hT :: (hR 4 [])) [] (pc h1 <| pn) (by kernel_rfl) (by kernel_rfl)
  ·have e : growth_orNone b left = ((⟨(⟨0, 0, 0, 0⟩ : XStand), (⟨0, 0, 0, 0⟩ : XStand)⟩ : XBox), 5) := by unfold growth_orNone; rw [h1, cF]; first | done | rfl
   rw [e]
   exact FSat.d pfT 14 (hE :: hE :: hE :: hF :: (hR 4 [])) [] (pc h1 <| pn) (by kernel_rfl) (by kernel_rfl)

/- greenhew/growth.Narrow -/
noncomputable abbrev z2i0 (l : List XSample) (q10 : Nat) : Hint := (hB (hM (.bool (growth_tooMany l)) (.bool (growth_tooMany l)) (A_growth_tooMany l q10) (K_growth_tooMany l) [(10, 10, 0)]) true)
theorem z2p1 (l : List XSample) (q10 : Nat) : VRs (Ren.emb [(10, 10, 0)]) (A_growth_tooMany l q10) [.slice (some ⟨10, 0, none⟩) (l.length) (q10)] := (.cons _ _ _ _ (.slc 10 0 _ _ _ ⟨10, 0, 0, 0⟩ rfl (.inl rfl)) .nil)
abbrev z2r2 (l : List XSample) : Prop := MemAt (Ren.emb [(10, 10, 0)]) (encL cXSample l) 0 (encL cXSample l) ∧ True
abbrev z2r3 (l : List XSample) : Prop := VR (Ren.emb [(10, 10, 0)]) (.bool (growth_tooMany l)) (.bool (growth_tooMany l))
noncomputable abbrev z2i4 (l : List XSample) (q10 : Nat) : Hint := (hB (hM (.bool (growth_tooMany l)) (.bool (growth_tooMany l)) (A_growth_tooMany l q10) (K_growth_tooMany l) [(10, 10, 0)]) false)
noncomputable abbrev z2i5 (l : List XSample) (q10 : Nat) (x1 : Bool) : Hint := (hB (hM (.bool (x1)) (.bool (x1)) (A_growth_samplesAreDefined l q10) (K_growth_samplesAreDefined l) [(10, 10, 0)]) true)
noncomputable abbrev z2i6 (b : XBox) (l : List XSample) (q10 : Nat) (x2 : XBox × Bool) : Hint := (hM (.tuple #[.agg #[I (x2.1.Low.Age), I (x2.1.Low.Shoots), I (x2.1.Low.Height), I (x2.1.Low.Girth), I (x2.1.High.Age), I (x2.1.High.Shoots), I (x2.1.High.Height), I (x2.1.High.Girth)], .bool (x2.2)]) (.tuple #[.agg #[I (x2.1.Low.Age), I (x2.1.Low.Shoots), I (x2.1.Low.Height), I (x2.1.Low.Girth), I (x2.1.High.Age), I (x2.1.High.Shoots), I (x2.1.High.Height), I (x2.1.High.Girth)], .bool (x2.2)]) (A_growth_narrow b l q10) (K_growth_narrow l) [(10, 10, 0)])
noncomputable abbrev z2i7 (x2 : XBox × Bool) : Hint := (hC (.tuple #[.agg #[I ((((growth_orNone x2.1 x2.2).1).Low).Age), I ((((growth_orNone x2.1 x2.2).1).Low).Shoots), I ((((growth_orNone x2.1 x2.2).1).Low).Height), I ((((growth_orNone x2.1 x2.2).1).Low).Girth), I ((((growth_orNone x2.1 x2.2).1).High).Age), I ((((growth_orNone x2.1 x2.2).1).High).Shoots), I ((((growth_orNone x2.1 x2.2).1).High).Height), I ((((growth_orNone x2.1 x2.2).1).High).Girth)], I ((growth_orNone x2.1 x2.2).2)]))
theorem z2p8 (l : List XSample) (q10 : Nat) : VRs (Ren.emb [(10, 10, 0)]) (A_growth_samplesAreDefined l q10) [.slice (some ⟨10, 0, none⟩) (l.length) (q10)] := (.cons _ _ _ _ (.slc 10 0 _ _ _ ⟨10, 0, 0, 0⟩ rfl (.inl rfl)) .nil)
theorem z2p9 (b : XBox) (l : List XSample) (q10 : Nat) : VRs (Ren.emb [(10, 10, 0)]) (A_growth_narrow b l q10) [.agg #[I (b.Low.Age), I (b.Low.Shoots), I (b.Low.Height), I (b.Low.Girth), I (b.High.Age), I (b.High.Shoots), I (b.High.Height), I (b.High.Girth)], .slice (some ⟨10, 0, none⟩) (l.length) (q10)] := (.cons _ _ _ _ (VR.of_pf rfl) (.cons _ _ _ _ (.slc 10 0 _ _ _ ⟨10, 0, 0, 0⟩ rfl (.inl rfl)) .nil))
abbrev z2r10 (x2 : XBox × Bool) : Prop := VR (Ren.emb [(10, 10, 0)]) (.tuple #[.agg #[I (x2.1.Low.Age), I (x2.1.Low.Shoots), I (x2.1.Low.Height), I (x2.1.Low.Girth), I (x2.1.High.Age), I (x2.1.High.Shoots), I (x2.1.High.Height), I (x2.1.High.Girth)], .bool (x2.2)]) (.tuple #[.agg #[I (x2.1.Low.Age), I (x2.1.Low.Shoots), I (x2.1.Low.Height), I (x2.1.Low.Girth), I (x2.1.High.Age), I (x2.1.High.Shoots), I (x2.1.High.Height), I (x2.1.High.Girth)], .bool (x2.2)])
noncomputable abbrev z2i11 (l : List XSample) (q10 : Nat) (x1 : Bool) : Hint := (hB (hM (.bool (x1)) (.bool (x1)) (A_growth_samplesAreDefined l q10) (K_growth_samplesAreDefined l) [(10, 10, 0)]) false)
abbrev A_growth_Narrow (b : XBox) (l : List XSample) (q10 : Nat) : List Value := [.agg #[I (b.Low.Age), I (b.Low.Shoots), I (b.Low.Height), I (b.Low.Girth), I (b.High.Age), I (b.High.Shoots), I (b.High.Height), I (b.High.Girth)], .slice (some ⟨10, 0, none⟩) (l.length) (q10)]
abbrev K_growth_Narrow (l : List XSample) : List (Nat × List Value) := [(10, encL cXSample l)]
noncomputable def growth_Narrow (fu : Nat) (b : XBox) (l : List XSample) : Option (XBox × Int) :=
  bif growth_tooMany l then some ((⟨(⟨0, 0, 0, 0⟩ : XStand), (⟨0, 0, 0, 0⟩ : XStand)⟩ : XBox), 3)
  else (bif growth_boxIsDefined b then (Option.bind (growth_samplesAreDefined fu l) fun x1 =>
      bif x1 then (Option.bind (growth_narrow fu b l) fun x2 =>
        some ((⟨(((growth_orNone x2.1 x2.2).1).Low), (((growth_orNone x2.1 x2.2).1).High)⟩ : XBox), (growth_orNone x2.1 x2.2).2))
      else some ((⟨(⟨0, 0, 0, 0⟩ : XStand), (⟨0, 0, 0, 0⟩ : XStand)⟩ : XBox), 2))
    else some ((⟨(⟨0, 0, 0, 0⟩ : XStand), (⟨0, 0, 0, 0⟩ : XStand)⟩ : XBox), 2))
theorem growth_Narrow_fc (fu : Nat) (b : XBox) (l : List XSample) (q10 : Nat) (r : XBox × Int) (hh : growth_Narrow fu b l = some r) : FC P GG 44 (A_growth_Narrow b l q10) (K_growth_Narrow l) (.tuple #[.agg #[I (r.1.Low.Age), I (r.1.Low.Shoots), I (r.1.Low.Height), I (r.1.Low.Girth), I (r.1.High.Age), I (r.1.High.Shoots), I (r.1.High.Height), I (r.1.High.Girth)], I (r.2)]) := by
  refine FC.of_fsat 26 100 Tryd.func44 (by kernel_rfl) (by kernel_rfl) (by kernel_rfl) ⟨PinL.pf (encL_pf cXSample_pf _), trivial⟩ ?_
  unfold growth_Narrow at hh
  rcases bb (growth_tooMany l) with h1 | h1
  ·rw [h1, cT] at hh
   rw [← sI hh]
   exact FSat.d pfT 14 (hR 4 [(z2i0 l q10), hE, hE, hE]) [] (pc (growth_tooMany_fc l q10) <| pc (z2p1 l q10) <| pt (z2r2 l) (⟨MemAt.same _ (encL_pf cXSample_pf _), trivial⟩) <| pt (z2r3 l) (selfB_self 9 _ rfl _) <| pc h1 <| pn) (by kernel_rfl) (by kernel_rfl)
  ·rw [h1, cF] at hh
   rcases bb (growth_boxIsDefined b) with h2 | h2
   ·rw [h2, cT] at hh
    cases h3 : growth_samplesAreDefined fu l with
    | none => rw [h3, oN] at hh; cases hh
    | some x1 =>
     rw [h3, oS] at hh
     rcases bb (x1) with h4 | h4
     ·rw [h4, cT] at hh
      cases h5 : growth_narrow fu b l with
      | none => rw [h5, oN] at hh; cases hh
      | some x2 =>
       rw [h5, oS] at hh
       rw [← sI hh]
       exact FSat.d pfT 20 (hR 4 ((z2i4 l q10) :: hE :: (hB (hC (.bool (growth_boxIsDefined b))) true) :: hE :: hE :: hE :: (z2i5 l q10 x1) :: (hR 4 ((z2i6 b l q10 x2) :: hE :: hE :: (z2i7 x2) :: (hR 4 []))))) [] (pc (growth_tooMany_fc l q10) <| pc (z2p1 l q10) <| pt (z2r2 l) (⟨MemAt.same _ (encL_pf cXSample_pf _), trivial⟩) <| pt (z2r3 l) (selfB_self 9 _ rfl _) <| pc h1 <| pc (growth_boxIsDefined_fc b) <| pc h2 <| pc (growth_samplesAreDefined_fc fu l q10 x1 h3) <| pc (z2p8 l q10) <| pt (z2r2 l) (⟨MemAt.same _ (encL_pf cXSample_pf _), trivial⟩) <| pt (VR (Ren.emb [(10, 10, 0)]) (.bool (x1)) (.bool (x1))) (selfB_self 9 _ rfl _) <| pc h4 <| pc (growth_narrow_fc fu b l q10 x2 h5) <| pc (z2p9 b l q10) <| pt (z2r2 l) (⟨MemAt.same _ (encL_pf cXSample_pf _), trivial⟩) <| pt (z2r10 x2) (selfB_self 9 _ rfl _) <| pc (growth_orNone_fc x2.1 x2.2) <| pn) (by kernel_rfl) (by kernel_rfl)
     ·rw [h4, cF] at hh
      rw [← sI hh]
      exact FSat.d pfT 19 (hR 4 ((z2i4 l q10) :: hE :: (hB (hC (.bool (growth_boxIsDefined b))) true) :: hE :: hE :: hE :: (z2i11 l q10 x1) :: (hR 5 []))) [] (pc (growth_tooMany_fc l q10) <| pc (z2p1 l q10) <| pt (z2r2 l) (⟨MemAt.same _ (encL_pf cXSample_pf _), trivial⟩) <| pt (z2r3 l) (selfB_self 9 _ rfl _) <| pc h1 <| pc (growth_boxIsDefined_fc b) <| pc h2 <| pc (growth_samplesAreDefined_fc fu l q10 x1 h3) <| pc (z2p8 l q10) <| pt (z2r2 l) (⟨MemAt.same _ (encL_pf cXSample_pf _), trivial⟩) <| pt (VR (Ren.emb [(10, 10, 0)]) (.bool (x1)) (.bool (x1))) (selfB_self 9 _ rfl _) <| pc h4 <| pn) (by kernel_rfl) (by kernel_rfl)
   ·rw [h2, cF] at hh
    rw [← sI hh]
    exact FSat.d pfT 19 (hR 4 ((z2i4 l q10) :: hE :: (hB (hC (.bool (growth_boxIsDefined b))) false) :: (hR 6 []))) [] (pc (growth_tooMany_fc l q10) <| pc (z2p1 l q10) <| pt (z2r2 l) (⟨MemAt.same _ (encL_pf cXSample_pf _), trivial⟩) <| pt (z2r3 l) (selfB_self 9 _ rfl _) <| pc h1 <| pc (growth_boxIsDefined_fc b) <| pc h2 <| pn) (by kernel_rfl) (by kernel_rfl)

/- greenhew/greenhewref02.in -/
abbrev A_ref02_in (n low high : Int) : List Value := [I (n), I (low), I (high)]
noncomputable def ref02_in (n low high : Int) : Bool :=
  bif decide (n ≥ low) then decide (n ≤ high)
  else false
theorem ref02_in_fc (n low high : Int) : FC P GG 63 (A_ref02_in n low high) [] (.bool (ref02_in n low high)) := by
  refine FC.of_fsat 15 100 Tryd.func63 (by kernel_rfl) (by kernel_rfl) (by kernel_rfl) trivial ?_
  rcases bb (decide (n ≥ low)) with h1 | h1
  ·have e : ref02_in n low high = decide (n ≤ high) := by unfold ref02_in; rw [h1, cT]; first | done | rfl
   rw [e]
   exact FSat.d pfT 10 (hE :: hE :: hE :: hT :: (hR 6 [])) [] (pc h1 <| pn) (by kernel_rfl) (by kernel_rfl)
  ·have e : ref02_in n low high = false := by unfold ref02_in; rw [h1, cF]; first | done | rfl
   rw [e]
   exact FSat.d pfT 10 [hE, hE, hE, hF, hE, hE, hE] [] (pc h1 <| pn) (by kernel_rfl) (by kernel_rfl)

/- greenhew/greenhewref02.Stand -/
abbrev A_ref02_Stand (x_0 : XStand) : List Value := [.agg #[I (x_0.Age), I (x_0.Shoots), I (x_0.Height), I (x_0.Girth)]]
noncomputable def ref02_Stand (x_0 : XStand) : Bool :=
  bif ref02_in x_0.Age 0 100000 then (bif ref02_in x_0.Shoots 0 300 then (bif ref02_in x_0.Height 0 40000 then ref02_in x_0.Girth 0 3000
      else false)
    else false)
  else false
theorem ref02_Stand_fc (x_0 : XStand) : FC P GG 23 (A_ref02_Stand x_0) [] (.bool (ref02_Stand x_0)) := by
  refine FC.of_fsat 21 100 Tryd.func23 (by kernel_rfl) (by kernel_rfl) (by kernel_rfl) trivial ?_
  rcases bb (ref02_in x_0.Age 0 100000) with h1 | h1
  ·rcases bb (ref02_in x_0.Shoots 0 300) with h2 | h2
   ·rcases bb (ref02_in x_0.Height 0 40000) with h3 | h3
    ·have e : ref02_Stand x_0 = ref02_in x_0.Girth 0 3000 := by unfold ref02_Stand; rw [h1, cT, h2, cT, h3, cT]; first | done | rfl
     rw [e]
     exact FSat.d pfT 10 (hR 4 ((hB (hC (.bool (ref02_in x_0.Age 0 100000))) true) :: hE :: hE :: hE :: (hB (hC (.bool (ref02_in x_0.Shoots 0 300))) true) :: (hR 4 ((hB (hC (.bool (ref02_in x_0.Height 0 40000))) true) :: (hR 4 [(hC (.bool (ref02_in x_0.Girth 0 3000))), hE, hE]))))) [] (pc (ref02_in_fc x_0.Age 0 100000) <| pc h1 <| pc (ref02_in_fc x_0.Shoots 0 300) <| pc h2 <| pc (ref02_in_fc x_0.Height 0 40000) <| pc h3 <| pc (ref02_in_fc x_0.Girth 0 3000) <| pn) (by kernel_rfl) (by kernel_rfl)
    ·have e : ref02_Stand x_0 = false := by unfold ref02_Stand; rw [h1, cT, h2, cT, h3, cF]; first | done | rfl
     rw [e]
     exact FSat.d pfT 10 (hR 4 ((hB (hC (.bool (ref02_in x_0.Age 0 100000))) true) :: hE :: hE :: hE :: (hB (hC (.bool (ref02_in x_0.Shoots 0 300))) true) :: (hR 4 ((hB (hC (.bool (ref02_in x_0.Height 0 40000))) false) :: (hR 4 []))))) [] (pc (ref02_in_fc x_0.Age 0 100000) <| pc h1 <| pc (ref02_in_fc x_0.Shoots 0 300) <| pc h2 <| pc (ref02_in_fc x_0.Height 0 40000) <| pc h3 <| pn) (by kernel_rfl) (by kernel_rfl)
   ·have e : ref02_Stand x_0 = false := by unfold ref02_Stand; rw [h1, cT, h2, cF]; first | done | rfl
    rw [e]
    exact FSat.d pfT 10 (hR 4 ((hB (hC (.bool (ref02_in x_0.Age 0 100000))) true) :: hE :: hE :: hE :: (hB (hC (.bool (ref02_in x_0.Shoots 0 300))) false) :: (hR 6 []))) [] (pc (ref02_in_fc x_0.Age 0 100000) <| pc h1 <| pc (ref02_in_fc x_0.Shoots 0 300) <| pc h2 <| pn) (by kernel_rfl) (by kernel_rfl)
  ·have e : ref02_Stand x_0 = false := by unfold ref02_Stand; rw [h1, cF]; first | done | rfl
   rw [e]
   exact FSat.d pfT 10 (hR 4 ((hB (hC (.bool (ref02_in x_0.Age 0 100000))) false) :: (hR 7 []))) [] (pc (ref02_in_fc x_0.Age 0 100000) <| pc h1 <| pn) (by kernel_rfl) (by kernel_rfl)

/- greenhew/greenhewref02.Box -/
abbrev A_ref02_Box (b : XBox) : List Value := [.agg #[I (b.Low.Age), I (b.Low.Shoots), I (b.Low.Height), I (b.Low.Girth), I (b.High.Age), I (b.High.Shoots), I (b.High.Height), I (b.High.Girth)]]
noncomputable def ref02_Box (b : XBox) : Bool :=
  bif ref02_Stand b.Low then (bif ref02_Stand b.High then (bif b.Low.Age == b.High.Age then (bif decide (b.Low.Shoots ≤ b.High.Shoots) then (bif decide (b.Low.Height ≤ b.High.Height) then decide (b.Low.Girth ≤ b.High.Girth)
          else false)
        else false)
      else false)
    else false)
  else false
theorem ref02_Box_fc (b : XBox) : FC P GG 28 (A_ref02_Box b) [] (.bool (ref02_Box b)) := by
  refine FC.of_fsat 47 100 Tryd.func28 (by kernel_rfl) (by kernel_rfl) (by kernel_rfl) trivial ?_
  rcases bb (ref02_Stand b.Low) with h1 | h1
  ·rcases bb (ref02_Stand b.High) with h2 | h2
   ·rcases bb (b.Low.Age == b.High.Age) with h3 | h3
    ·rcases bb (decide (b.Low.Shoots ≤ b.High.Shoots)) with h4 | h4
     ·rcases bb (decide (b.Low.Height ≤ b.High.Height)) with h5 | h5
      ·have e : ref02_Box b = decide (b.Low.Girth ≤ b.High.Girth) := by unfold ref02_Box; rw [h1, cT, h2, cT, h3, cT, h4, cT, h5, cT]; first | done | rfl
       rw [e]
       exact FSat.d pfT 10 (hR 4 ((hB (hC (.bool (ref02_Stand b.Low))) true) :: hE :: hE :: hE :: (hB (hC (.bool (ref02_Stand b.High))) true) :: (hR 8 (hT :: (hR 8 (hT :: (hR 8 (hT :: (hR 11 []))))))))) [] (pc (ref02_Stand_fc b.Low) <| pc h1 <| pc (ref02_Stand_fc b.High) <| pc h2 <| pc h3 <| pc h4 <| pc h5 <| pn) (by kernel_rfl) (by kernel_rfl)
      ·have e : ref02_Box b = false := by unfold ref02_Box; rw [h1, cT, h2, cT, h3, cT, h4, cT, h5, cF]; first | done | rfl
       rw [e]
       exact FSat.d pfT 10 (hR 4 ((hB (hC (.bool (ref02_Stand b.Low))) true) :: hE :: hE :: hE :: (hB (hC (.bool (ref02_Stand b.High))) true) :: (hR 8 (hT :: (hR 8 (hT :: (hR 8 (hF :: (hR 4 []))))))))) [] (pc (ref02_Stand_fc b.Low) <| pc h1 <| pc (ref02_Stand_fc b.High) <| pc h2 <| pc h3 <| pc h4 <| pc h5 <| pn) (by kernel_rfl) (by kernel_rfl)
     ·have e : ref02_Box b = false := by unfold ref02_Box; rw [h1, cT, h2, cT, h3, cT, h4, cF]; first | done | rfl
      rw [e]
      exact FSat.d pfT 10 (hR 4 ((hB (hC (.bool (ref02_Stand b.Low))) true) :: hE :: hE :: hE :: (hB (hC (.bool (ref02_Stand b.High))) true) :: (hR 8 (hT :: (hR 8 (hF :: (hR 6 []))))))) [] (pc (ref02_Stand_fc b.Low) <| pc h1 <| pc (ref02_Stand_fc b.High) <| pc h2 <| pc h3 <| pc h4 <| pn) (by kernel_rfl) (by kernel_rfl)
    ·have e : ref02_Box b = false := by unfold ref02_Box; rw [h1, cT, h2, cT, h3, cF]; first | done | rfl
     rw [e]
     exact FSat.d pfT 10 (hR 4 ((hB (hC (.bool (ref02_Stand b.Low))) true) :: hE :: hE :: hE :: (hB (hC (.bool (ref02_Stand b.High))) true) :: (hR 8 (hF :: (hR 8 []))))) [] (pc (ref02_Stand_fc b.Low) <| pc h1 <| pc (ref02_Stand_fc b.High) <| pc h2 <| pc h3 <| pn) (by kernel_rfl) (by kernel_rfl)
   ·have e : ref02_Box b = false := by unfold ref02_Box; rw [h1, cT, h2, cF]; first | done | rfl
    rw [e]
    exact FSat.d pfT 10 (hR 4 ((hB (hC (.bool (ref02_Stand b.Low))) true) :: hE :: hE :: hE :: (hB (hC (.bool (ref02_Stand b.High))) false) :: (hR 10 []))) [] (pc (ref02_Stand_fc b.Low) <| pc h1 <| pc (ref02_Stand_fc b.High) <| pc h2 <| pn) (by kernel_rfl) (by kernel_rfl)
  ·have e : ref02_Box b = false := by unfold ref02_Box; rw [h1, cF]; first | done | rfl
   rw [e]
   exact FSat.d pfT 10 (hR 4 ((hB (hC (.bool (ref02_Stand b.Low))) false) :: (hR 11 []))) [] (pc (ref02_Stand_fc b.Low) <| pc h1 <| pn) (by kernel_rfl) (by kernel_rfl)

/- greenhew/greenhewref02.Sample -/
abbrev A_ref02_Sample (x_0 : XSample) : List Value := [.agg #[I (x_0.Kind), I (x_0.Span.Low), I (x_0.Span.High)]]
noncomputable def ref02_Sample (x_0 : XSample) : Bool :=
  bif decide (x_0.Kind ≥ 1) then (bif decide (x_0.Kind ≤ 3) then decide (x_0.Span.Low ≤ x_0.Span.High)
    else false)
  else false
theorem ref02_Sample_fc (x_0 : XSample) : FC P GG 81 (A_ref02_Sample x_0) [] (.bool (ref02_Sample x_0)) := by
  refine FC.of_fsat 20 100 Tryd.func81 (by kernel_rfl) (by kernel_rfl) (by kernel_rfl) trivial ?_
  rcases bb (decide (x_0.Kind ≥ 1)) with h1 | h1
  ·rcases bb (decide (x_0.Kind ≤ 3)) with h2 | h2
   ·have e : ref02_Sample x_0 = decide (x_0.Span.Low ≤ x_0.Span.High) := by unfold ref02_Sample; rw [h1, cT, h2, cT]; first | done | rfl
    rw [e]
    exact FSat.d pfT 10 (hR 4 (hT :: hE :: hE :: hE :: hT :: (hR 11 []))) [] (pc h1 <| pc h2 <| pn) (by kernel_rfl) (by kernel_rfl)
   ·have e : ref02_Sample x_0 = false := by unfold ref02_Sample; rw [h1, cT, h2, cF]; first | done | rfl
    rw [e]
    exact FSat.d pfT 10 (hR 4 (hT :: hE :: hE :: hE :: hF :: (hR 4 []))) [] (pc h1 <| pc h2 <| pn) (by kernel_rfl) (by kernel_rfl)
  ·have e : ref02_Sample x_0 = false := by unfold ref02_Sample; rw [h1, cF]; first | done | rfl
   rw [e]
   exact FSat.d pfT 10 (hR 4 (hF :: (hR 5 []))) [] (pc h1 <| pn) (by kernel_rfl) (by kernel_rfl)

/- greenhew/greenhewref02.Samples -/
noncomputable abbrev z17i0 (l : List XSample) (v3 : Int) : Hint := (hL (.agg #[I ((at_ zXSample l v3).Kind), I (((at_ zXSample l v3).Span).Low), I (((at_ zXSample l v3).Span).High)]))
noncomputable abbrev z17i1 (l : List XSample) (v3 : Int) : Hint := (hB (hC (.bool (ref02_Sample (⟨(at_ zXSample l v3).Kind, ((at_ zXSample l v3).Span)⟩ : XSample)))) true)
theorem z17p2 (l : List XSample) (v3 : Int) : FC P GG 81 (A_ref02_Sample (⟨(at_ zXSample l v3).Kind, ((at_ zXSample l v3).Span)⟩ : XSample)) [] (.bool (ref02_Sample (⟨(at_ zXSample l v3).Kind, ((at_ zXSample l v3).Span)⟩ : XSample))) := ref02_Sample_fc (⟨(at_ zXSample l v3).Kind, ((at_ zXSample l v3).Span)⟩ : XSample)
abbrev z17r3 (l : List XSample) (v3 : Int) : Prop := RowLd P 86 (encL cXSample l) (0 + v3.toNat * 3) (.agg #[I ((at_ zXSample l v3).Kind), I (((at_ zXSample l v3).Span).Low), I (((at_ zXSample l v3).Span).High)])
noncomputable abbrev z17i4 (l : List XSample) (v3 : Int) : Hint := (hB (hC (.bool (ref02_Sample (⟨(at_ zXSample l v3).Kind, ((at_ zXSample l v3).Span)⟩ : XSample)))) false)
abbrev A_ref02_Samples (l : List XSample) (q10 : Nat) : List Value := [.slice (some ⟨10, 0, none⟩) (l.length) (q10)]
abbrev K_ref02_Samples (l : List XSample) : List (Nat × List Value) := [(10, encL cXSample l)]
noncomputable def ref02_Samples_L (fu : Nat) (l : List XSample) : Nat → (Bool → Int → Option Bool)
  | 0 => (fun _ _ => none)
  | fk + 1 => (fun v2 v3 => bif decide (v3 < ((l.length : Nat) : Int)) then (bif decide (0 ≤ v3 ∧ v3 < ((l.length : Nat) : Int)) then (bif ref02_Sample (⟨(at_ zXSample l v3).Kind, ((at_ zXSample l v3).Span)⟩ : XSample) then ref02_Samples_L fu l fk v2 (W (v3 + 1))
        else some false) else none)
      else some true)
theorem ref02_Samples_L_s0 (fu : Nat) (l : List XSample) (fk : Nat) (v2 : Bool) (v3 : Int) : ref02_Samples_L fu l (fk + 1) v2 v3 = (bif decide (v3 < ((l.length : Nat) : Int)) then (bif decide (0 ≤ v3 ∧ v3 < ((l.length : Nat) : Int)) then (bif ref02_Sample (⟨(at_ zXSample l v3).Kind, ((at_ zXSample l v3).Span)⟩ : XSample) then ref02_Samples_L fu l fk v2 (W (v3 + 1))
        else some false) else none)
      else some true) := rfl
noncomputable def ref02_Samples (fu : Nat) (l : List XSample) : Option Bool :=
  ref02_Samples_L fu l fu false 0
theorem ref02_Samples_L_fs (fu : Nat) (l : List XSample) (q10 : Nat) : ∀ fk, (∀ (v2 : Bool) (v3 : Int) (r : Bool), ref02_Samples_L fu l fk v2 v3 = some r → FSat P GG Tryd.f45 (.bool (r)) (ids (looses (K_ref02_Samples l))) 16 [.lp (cA (bodyOf Tryd.f45) [1, 0, 1, 0, 0]), .blk 0, .code (cA (bodyOf Tryd.f45) [1, 1])] (tOf 16 [(0, .slice (some ⟨10, 0, none⟩) (l.length) (q10)), (2, .bool (v2)), (3, I (v3))]) (mOf 100 [(0, .rom [I (1), I (2), I (3)] .glob), (10, .rom (encL cXSample l) .loose)])) := by
  intro fk
  induction fk with
  | zero => exact fun _ _ r hh => by cases hh
  | succ fk ih =>
    · intro v2 v3 r hh
      rw [ref02_Samples_L_s0] at hh
      rcases bb (decide (v3 < ((l.length : Nat) : Int))) with h1 | h1
      ·rw [h1, cT] at hh
       rcases bb (decide (0 ≤ v3 ∧ v3 < ((l.length : Nat) : Int))) with h2 | h2
       rotate_left
       ·rw [h2, cF] at hh; cases hh
       ·rw [h2, cT] at hh
        rcases bb (ref02_Sample (⟨(at_ zXSample l v3).Kind, ((at_ zXSample l v3).Span)⟩ : XSample)) with h3 | h3
        ·rw [h3, cT] at hh
         have nx := ih v2 (W (v3 + 1)) r hh
         refine FSat.s pfT 20 (hE :: hE :: hE :: hT :: hE :: hE :: hX :: (z17i0 l v3) :: (z17i1 l v3) :: (hR 4 [])) [.go, .st [0, 2, 3] [0, 10]] (pc h1 <| pt (0 ≤ v3 ∧ v3 < ((l.length : Nat) : Int)) (of_decide_eq_true h2) <| pt (z17r3 l v3) (RowLd.elem cXSample_len _ (.inl ⟨_, rfl⟩) rfl rfl _ _ (of_decide_eq_true h2)) <| pc (z17p2 l v3) <| pc h3 <| pn) (by kernel_rfl) 100 (by kernel_rfl) ?_ nx
         exact ⟨PinL.lit (by kernel_rfl), PinL.pf (encL_pf cXSample_pf _), trivial⟩
        ·rw [h3, cF] at hh
         rw [← sI hh]
         exact FSat.d pfT 19 [hE, hE, hE, hT, hE, hE, hX, (z17i0 l v3), (z17i4 l v3), hE, hE] [.go] (pc h1 <| pt (0 ≤ v3 ∧ v3 < ((l.length : Nat) : Int)) (of_decide_eq_true h2) <| pt (z17r3 l v3) (RowLd.elem cXSample_len _ (.inl ⟨_, rfl⟩) rfl rfl _ _ (of_decide_eq_true h2)) <| pc (z17p2 l v3) <| pc h3 <| pn) (by kernel_rfl) (by kernel_rfl)
      ·rw [h1, cF] at hh
       rw [← sI hh]
       exact FSat.d pfT 14 [hE, hE, hE, hF, hE] [.go] (pc h1 <| pn) (by kernel_rfl) (by kernel_rfl)
theorem ref02_Samples_fc (fu : Nat) (l : List XSample) (q10 : Nat) (r : Bool) (hh : ref02_Samples fu l = some r) : FC P GG 45 (A_ref02_Samples l q10) (K_ref02_Samples l) (.bool (r)) := by
  refine FC.of_fsat 16 100 Tryd.func45 (by kernel_rfl) (by kernel_rfl) (by kernel_rfl) ⟨PinL.pf (encL_pf cXSample_pf _), trivial⟩ ?_
  unfold ref02_Samples at hh
  have nx := ref02_Samples_L_fs fu l q10 fu false 0 r hh
  refine FSat.s pfT 13 [hE, hE] [.st [0, 2, 3] [0, 10]] (pn) (by kernel_rfl) 100 (by kernel_rfl) ?_ nx
  exact ⟨PinL.lit (by kernel_rfl), PinL.pf (encL_pf cXSample_pf _), trivial⟩

/- greenhew/growth.tooMany -/
abbrev A_growth_tooMany_1 : List Value := [.slice none 0 0]
noncomputable def growth_tooMany_1  : Bool :=
  false
theorem growth_tooMany_1_fc  : FC P GG 77 (A_growth_tooMany_1) [] (.bool (growth_tooMany_1)) := by
  refine FC.of_fsat 6 100 Tryd.func77 (by kernel_rfl) (by kernel_rfl) (by kernel_rfl) trivial ?_
  have e : growth_tooMany_1 = false := by unfold growth_tooMany_1; rfl
  rw [e]
  exact FSat.d pfT 10 (hR 5 []) [] (pn) (by kernel_rfl) (by kernel_rfl)

/- greenhew/growth.all[greenhew/api.Sample] -/
abbrev A_api_Sample_1 : List Value := [.slice none 0 0, .func (.func 111) #[] #[]]
noncomputable def api_Sample_1_L (_fu : Nat)  : Nat → (Bool → Int → Option Bool)
  | 0 => (fun _ _ => none)
  | _ + 1 => (fun _ v9 => bif decide (v9 < 0) then none
      else some true)
theorem api_Sample_1_L_s0 (fu : Nat)  (fk : Nat) (v4 : Bool) (v9 : Int) : api_Sample_1_L fu  (fk + 1) v4 v9 = (bif decide (v9 < 0) then none
      else some true) := rfl
noncomputable def api_Sample_1 (fu : Nat)  : Option Bool :=
  api_Sample_1_L fu  fu false 0
theorem api_Sample_1_L_fs (fu : Nat)  : ∀ fk, (∀ (v4 : Bool) (v9 : Int) (r : Bool), api_Sample_1_L fu  fk v4 v9 = some r → FSat P GG Tryd.f110 (.bool (r)) (ids (looses [])) 18 [.lp (cA (bodyOf Tryd.f110) [1, 0, 1, 0, 0]), .blk 0, .code (cA (bodyOf Tryd.f110) [1, 1])] (tOf 18 [(1, .func (.func 111) #[] #[]), (4, .bool (v4)), (7, .slice none 0 0), (8, I (0)), (9, I (v9))]) (mOf 100 [(0, .rom [I (1), I (2), I (3)] .glob)])) := by
  intro fk
  induction fk with
  | zero => exact fun _ _ r hh => by cases hh
  | succ fk ih =>
    · intro v4 v9 r hh
      rw [api_Sample_1_L_s0] at hh
      rcases bb (decide (v9 < 0)) with h1 | h1
      ·rw [h1, cT] at hh
       cases hh
      ·rw [h1, cF] at hh
       rw [← sI hh]
       exact FSat.d pfT 14 [hF, hE] [.go] (pc h1 <| pn) (by kernel_rfl) (by kernel_rfl)
theorem api_Sample_1_fc (fu : Nat)  (r : Bool) (hh : api_Sample_1 fu = some r) : FC P GG 110 (A_api_Sample_1) [] (.bool (r)) := by
  refine FC.of_fsat 18 100 Tryd.func110 (by kernel_rfl) (by kernel_rfl) (by kernel_rfl) trivial ?_
  unfold api_Sample_1 at hh
  have nx := api_Sample_1_L_fs fu  fu false 0 r hh
  refine FSat.s pfT 13 (hR 4 []) [.st [1, 4, 7, 8, 9] [0]] (pn) (by kernel_rfl) 100 (by kernel_rfl) ?_ nx
  exact ⟨PinL.lit (by kernel_rfl), trivial⟩

/- greenhew/growth.samplesAreDefined -/
theorem z21p0 : VRs (Ren.emb []) (A_api_Sample_1) [.slice none 0 0, .func (.func 111) #[] #[]] := (.cons _ _ _ _ (VR.of_pf rfl) (.cons _ _ _ _ (.func _ _ _ _ _ (fun _ h => by cases h) .nil .nil) .nil))
abbrev A_growth_samplesAreDefined_1v : List Value := [.slice none 0 0]
noncomputable def growth_samplesAreDefined_1v (fu : Nat)  : Option Bool :=
  Option.bind (api_Sample_1 fu) fun x1 =>
  some x1
theorem growth_samplesAreDefined_1v_fc (fu : Nat)  (r : Bool) (hh : growth_samplesAreDefined_1v fu = some r) : FC P GG 78 (A_growth_samplesAreDefined_1v) [] (.bool (r)) := by
  refine FC.of_fsat 5 100 Tryd.func78 (by kernel_rfl) (by kernel_rfl) (by kernel_rfl) trivial ?_
  unfold growth_samplesAreDefined_1v at hh
  cases h1 : api_Sample_1 fu with
  | none => rw [h1, oN] at hh; cases hh
  | some x1 =>
   rw [h1, oS] at hh
   rw [← sI hh]
   exact FSat.d pfT 10 [hE, hE, (hM (.bool (x1)) (.bool (x1)) (A_api_Sample_1) [] []), hE] [] (pc (api_Sample_1_fc fu  x1 h1) <| pc z21p0 <| pt True trivial <| pt (VR (Ren.emb []) (.bool (x1)) (.bool (x1))) (selfB_self 9 _ rfl _) <| pn) (by kernel_rfl) (by kernel_rfl)

/- greenhew/growth.narrow -/
abbrev A_growth_narrow_1 (b : XBox) : List Value := [.agg #[I (b.Low.Age), I (b.Low.Shoots), I (b.Low.Height), I (b.Low.Girth), I (b.High.Age), I (b.High.Shoots), I (b.High.Height), I (b.High.Girth)], .slice none 0 0]
noncomputable def growth_narrow_1_L (_fu : Nat) (b : XBox) : Nat → (Bool → Int → Option (XBox × Bool))
  | 0 => (fun _ _ => none)
  | _ + 1 => (fun v6 v11 => bif decide (v11 < 0) then none
      else some (b, v6))
theorem growth_narrow_1_L_s0 (fu : Nat) (b : XBox) (fk : Nat) (v6 : Bool) (v11 : Int) : growth_narrow_1_L fu b (fk + 1) v6 v11 = (bif decide (v11 < 0) then none
      else some (b, v6)) := rfl
noncomputable def growth_narrow_1 (fu : Nat) (b : XBox) : Option (XBox × Bool) :=
  growth_narrow_1_L fu b fu true 0
theorem growth_narrow_1_L_fs (fu : Nat) (b : XBox) : ∀ fk, (∀ (v6 : Bool) (v11 : Int) (r : XBox × Bool), growth_narrow_1_L fu b fk v6 v11 = some r → FSat P GG Tryd.f80 (.tuple #[.agg #[I (r.1.Low.Age), I (r.1.Low.Shoots), I (r.1.Low.Height), I (r.1.Low.Girth), I (r.1.High.Age), I (r.1.High.Shoots), I (r.1.High.Height), I (r.1.High.Girth)], .bool (r.2)]) (ids (looses [])) 29 [.lp (cA (bodyOf Tryd.f80) [1, 1, 0, 1, 0, 0]), .blk 0, .code (cA (bodyOf Tryd.f80) [1, 1, 1])] (tOf 29 [(2, .pointer (some ⟨100, 0, none⟩)), (4, .pointer (some ⟨101, 0, none⟩)), (5, .bool (false)), (6, .bool (v6)), (9, .slice none 0 0), (10, I (0)), (11, I (v11))]) (mOf 102 [(0, .rom [I (1), I (2), I (3)] .glob), (100, .row [I (b.Low.Age), I (b.Low.Shoots), I (b.Low.Height), I (b.Low.Girth), I (b.High.Age), I (b.High.Shoots), I (b.High.Height), I (b.High.Girth)] 0), (101, .row [I (0), I (0), I (0), I (0), I (0), I (0), I (0), I (0)] 0)])) := by
  intro fk
  induction fk with
  | zero => exact fun _ _ r hh => by cases hh
  | succ fk ih =>
    · intro v6 v11 r hh
      rw [growth_narrow_1_L_s0] at hh
      rcases bb (decide (v11 < 0)) with h1 | h1
      ·rw [h1, cT] at hh
       cases hh
      ·rw [h1, cF] at hh
       rw [← sI hh]
       exact FSat.d pfT 14 (hF :: (hR 4 [])) [.go] (pc h1 <| pn) (by kernel_rfl) (by kernel_rfl)
theorem growth_narrow_1_fc (fu : Nat) (b : XBox) (r : XBox × Bool) (hh : growth_narrow_1 fu b = some r) : FC P GG 80 (A_growth_narrow_1 b) [] (.tuple #[.agg #[I (r.1.Low.Age), I (r.1.Low.Shoots), I (r.1.Low.Height), I (r.1.Low.Girth), I (r.1.High.Age), I (r.1.High.Shoots), I (r.1.High.Height), I (r.1.High.Girth)], .bool (r.2)]) := by
  refine FC.of_fsat 29 100 Tryd.func80 (by kernel_rfl) (by kernel_rfl) (by kernel_rfl) trivial ?_
  unfold growth_narrow_1 at hh
  have nx := growth_narrow_1_L_fs fu b fu true 0 r hh
  refine FSat.s pfT 15 (hR 7 []) [.st [2, 4, 5, 6, 9, 10, 11] [0, 100, 101]] (pn) (by kernel_rfl) 102 (by kernel_rfl) ?_ nx
  exact ⟨PinL.lit (by kernel_rfl), PinL.lit (by kernel_rfl), PinL.lit (by kernel_rfl), trivial⟩

/- greenhew/growth.Narrow -/
noncomputable abbrev z19i0 (x2 : XBox × Bool) : Hint := (hC (.tuple #[.agg #[I (x2.1.Low.Age), I (x2.1.Low.Shoots), I (x2.1.Low.Height), I (x2.1.Low.Girth), I (x2.1.High.Age), I (x2.1.High.Shoots), I (x2.1.High.Height), I (x2.1.High.Girth)], .bool (x2.2)]))
noncomputable abbrev z19i1 (x2 : XBox × Bool) : Hint := (hC (.tuple #[.agg #[I ((((growth_orNone x2.1 x2.2).1).Low).Age), I ((((growth_orNone x2.1 x2.2).1).Low).Shoots), I ((((growth_orNone x2.1 x2.2).1).Low).Height), I ((((growth_orNone x2.1 x2.2).1).Low).Girth), I ((((growth_orNone x2.1 x2.2).1).High).Age), I ((((growth_orNone x2.1 x2.2).1).High).Shoots), I ((((growth_orNone x2.1 x2.2).1).High).Height), I ((((growth_orNone x2.1 x2.2).1).High).Girth)], I ((growth_orNone x2.1 x2.2).2)]))
abbrev A_growth_Narrow_1 (b : XBox) : List Value := [.agg #[I (b.Low.Age), I (b.Low.Shoots), I (b.Low.Height), I (b.Low.Girth), I (b.High.Age), I (b.High.Shoots), I (b.High.Height), I (b.High.Girth)], .slice none 0 0]
noncomputable def growth_Narrow_1 (fu : Nat) (b : XBox) : Option (XBox × Int) :=
  bif growth_tooMany_1 then some ((⟨(⟨0, 0, 0, 0⟩ : XStand), (⟨0, 0, 0, 0⟩ : XStand)⟩ : XBox), 3)
  else (bif growth_boxIsDefined b then (Option.bind (growth_samplesAreDefined_1v fu) fun x1 =>
      bif x1 then (Option.bind (growth_narrow_1 fu b) fun x2 =>
        some ((⟨(((growth_orNone x2.1 x2.2).1).Low), (((growth_orNone x2.1 x2.2).1).High)⟩ : XBox), (growth_orNone x2.1 x2.2).2))
      else some ((⟨(⟨0, 0, 0, 0⟩ : XStand), (⟨0, 0, 0, 0⟩ : XStand)⟩ : XBox), 2))
    else some ((⟨(⟨0, 0, 0, 0⟩ : XStand), (⟨0, 0, 0, 0⟩ : XStand)⟩ : XBox), 2))
theorem growth_Narrow_1_fc (fu : Nat) (b : XBox) (r : XBox × Int) (hh : growth_Narrow_1 fu b = some r) : FC P GG 44 (A_growth_Narrow_1 b) [] (.tuple #[.agg #[I (r.1.Low.Age), I (r.1.Low.Shoots), I (r.1.Low.Height), I (r.1.Low.Girth), I (r.1.High.Age), I (r.1.High.Shoots), I (r.1.High.Height), I (r.1.High.Girth)], I (r.2)]) := by
  refine FC.of_fsat 26 100 Tryd.func44 (by kernel_rfl) (by kernel_rfl) (by kernel_rfl) trivial ?_
  unfold growth_Narrow_1 at hh
  rcases bb (growth_tooMany_1) with h1 | h1
  ·rw [h1, cT] at hh
   rw [← sI hh]
   exact FSat.d pfT 14 (hR 4 [(hB (hC (.bool (growth_tooMany_1))) true), hE, hE, hE]) [] (pc (growth_tooMany_1_fc ) <| pc h1 <| pn) (by kernel_rfl) (by kernel_rfl)
  ·rw [h1, cF] at hh
   rcases bb (growth_boxIsDefined b) with h2 | h2
   ·rw [h2, cT] at hh
    cases h3 : growth_samplesAreDefined_1v fu with
    | none => rw [h3, oN] at hh; cases hh
    | some x1 =>
     rw [h3, oS] at hh
     rcases bb (x1) with h4 | h4
     ·rw [h4, cT] at hh
      cases h5 : growth_narrow_1 fu b with
      | none => rw [h5, oN] at hh; cases hh
      | some x2 =>
       rw [h5, oS] at hh
       rw [← sI hh]
       exact FSat.d pfT 20 (hR 4 ((hB (hC (.bool (growth_tooMany_1))) false) :: hE :: (hB (hC (.bool (growth_boxIsDefined b))) true) :: hE :: hE :: hE :: (hB (hC (.bool (x1))) true) :: (hR 4 ((z19i0 x2) :: hE :: hE :: (z19i1 x2) :: (hR 4 []))))) [] (pc (growth_tooMany_1_fc ) <| pc h1 <| pc (growth_boxIsDefined_fc b) <| pc h2 <| pc (growth_samplesAreDefined_1v_fc fu  x1 h3) <| pc h4 <| pc (growth_narrow_1_fc fu b x2 h5) <| pc (growth_orNone_fc x2.1 x2.2) <| pn) (by kernel_rfl) (by kernel_rfl)
     ·rw [h4, cF] at hh
      rw [← sI hh]
      exact FSat.d pfT 19 (hR 4 ((hB (hC (.bool (growth_tooMany_1))) false) :: hE :: (hB (hC (.bool (growth_boxIsDefined b))) true) :: hE :: hE :: hE :: (hB (hC (.bool (x1))) false) :: (hR 5 []))) [] (pc (growth_tooMany_1_fc ) <| pc h1 <| pc (growth_boxIsDefined_fc b) <| pc h2 <| pc (growth_samplesAreDefined_1v_fc fu  x1 h3) <| pc h4 <| pn) (by kernel_rfl) (by kernel_rfl)
   ·rw [h2, cF] at hh
    rw [← sI hh]
    exact FSat.d pfT 19 (hR 4 ((hB (hC (.bool (growth_tooMany_1))) false) :: hE :: (hB (hC (.bool (growth_boxIsDefined b))) false) :: (hR 6 []))) [] (pc (growth_tooMany_1_fc ) <| pc h1 <| pc (growth_boxIsDefined_fc b) <| pc h2 <| pn) (by kernel_rfl) (by kernel_rfl)

/- greenhew/greenhewref02.Get -/
abbrev A_ref02_Get (b : XBox) (k : Int) : List Value := [.agg #[I (b.Low.Age), I (b.Low.Shoots), I (b.Low.Height), I (b.Low.Girth), I (b.High.Age), I (b.High.Shoots), I (b.High.Height), I (b.High.Girth)], I (k)]
noncomputable def ref02_Get (b : XBox) (k : Int) : XSpan :=
  bif k == 1 then (⟨b.Low.Shoots, b.High.Shoots⟩ : XSpan)
  else (bif k == 2 then (⟨b.Low.Height, b.High.Height⟩ : XSpan)
    else (⟨b.Low.Girth, b.High.Girth⟩ : XSpan))
theorem ref02_Get_fc (b : XBox) (k : Int) : FC P GG 75 (A_ref02_Get b k) [] (.agg #[I ((ref02_Get b k).Low), I ((ref02_Get b k).High)]) := by
  refine FC.of_fsat 31 100 Tryd.func75 (by kernel_rfl) (by kernel_rfl) (by kernel_rfl) trivial ?_
  rcases bb (k == 1) with h1 | h1
  ·have e : ref02_Get b k = (⟨b.Low.Shoots, b.High.Shoots⟩ : XSpan) := by unfold ref02_Get; rw [h1, cT]; first | done | rfl
   rw [e]
   exact FSat.d pfT 17 (hE :: hE :: hE :: hT :: (hR 9 [])) [] (pc h1 <| pn) (by kernel_rfl) (by kernel_rfl)
  ·rcases bb (k == 2) with h2 | h2
   ·have e : ref02_Get b k = (⟨b.Low.Height, b.High.Height⟩ : XSpan) := by unfold ref02_Get; rw [h1, cF, h2, cT]; first | done | rfl
    rw [e]
    exact FSat.d pfT 20 (hE :: hE :: hE :: hF :: hE :: hT :: (hR 9 [])) [] (pc h1 <| pc h2 <| pn) (by kernel_rfl) (by kernel_rfl)
   ·have e : ref02_Get b k = (⟨b.Low.Girth, b.High.Girth⟩ : XSpan) := by unfold ref02_Get; rw [h1, cF, h2, cF]; first | done | rfl
    rw [e]
    exact FSat.d pfT 22 (hE :: hE :: hE :: hF :: hE :: hF :: (hR 9 [])) [] (pc h1 <| pc h2 <| pn) (by kernel_rfl) (by kernel_rfl)

/- greenhew/greenhewref02.Set -/
abbrev z26r0 : Prop := (.pointer (some ⟨101, 1, none⟩) : Value) = .pointer (some ⟨101, 1, none⟩)
abbrev A_ref02_Set (b : XBox) (k : Int) (s : XSpan) : List Value := [.agg #[I (b.Low.Age), I (b.Low.Shoots), I (b.Low.Height), I (b.Low.Girth), I (b.High.Age), I (b.High.Shoots), I (b.High.Height), I (b.High.Girth)], I (k), .agg #[I (s.Low), I (s.High)]]
noncomputable def ref02_Set (b : XBox) (k : Int) (s : XSpan) : XBox :=
  bif k == 1 then (⟨(⟨b.Low.Age, s.Low, b.Low.Height, b.Low.Girth⟩ : XStand), (⟨b.High.Age, s.High, b.High.Height, b.High.Girth⟩ : XStand)⟩ : XBox)
  else (bif k == 2 then (⟨(⟨b.Low.Age, b.Low.Shoots, s.Low, b.Low.Girth⟩ : XStand), (⟨b.High.Age, b.High.Shoots, s.High, b.High.Girth⟩ : XStand)⟩ : XBox)
    else (⟨(⟨b.Low.Age, b.Low.Shoots, b.Low.Height, s.Low⟩ : XStand), (⟨b.High.Age, b.High.Shoots, b.High.Height, s.High⟩ : XStand)⟩ : XBox))
theorem ref02_Set_fc (b : XBox) (k : Int) (s : XSpan) : FC P GG 82 (A_ref02_Set b k s) [] (.agg #[I (((ref02_Set b k s).Low).Age), I (((ref02_Set b k s).Low).Shoots), I (((ref02_Set b k s).Low).Height), I (((ref02_Set b k s).Low).Girth), I (((ref02_Set b k s).High).Age), I (((ref02_Set b k s).High).Shoots), I (((ref02_Set b k s).High).Height), I (((ref02_Set b k s).High).Girth)]) := by
  refine FC.of_fsat 37 100 Tryd.func82 (by kernel_rfl) (by kernel_rfl) (by kernel_rfl) trivial ?_
  rcases bb (k == 1) with h1 | h1
  ·have e : ref02_Set b k s = (⟨(⟨b.Low.Age, s.Low, b.Low.Height, b.Low.Girth⟩ : XStand), (⟨b.High.Age, s.High, b.High.Height, b.High.Girth⟩ : XStand)⟩ : XBox) := by unfold ref02_Set; rw [h1, cT]; first | done | rfl
   rw [e]
   exact FSat.d pfT 19 (hR 4 (hT :: (hR 13 []))) [] (pc h1 <| pt z26r0 rfl <| pt ((I (s.High) : Value) = I (s.High)) rfl <| pn) (by kernel_rfl) (by kernel_rfl)
  ·rcases bb (k == 2) with h2 | h2
   ·have e : ref02_Set b k s = (⟨(⟨b.Low.Age, b.Low.Shoots, s.Low, b.Low.Girth⟩ : XStand), (⟨b.High.Age, b.High.Shoots, s.High, b.High.Girth⟩ : XStand)⟩ : XBox) := by unfold ref02_Set; rw [h1, cF, h2, cT]; first | done | rfl
    rw [e]
    exact FSat.d pfT 22 (hR 4 (hF :: hE :: hT :: (hR 13 []))) [] (pc h1 <| pc h2 <| pt z26r0 rfl <| pt ((I (s.High) : Value) = I (s.High)) rfl <| pn) (by kernel_rfl) (by kernel_rfl)
   ·have e : ref02_Set b k s = (⟨(⟨b.Low.Age, b.Low.Shoots, b.Low.Height, s.Low⟩ : XStand), (⟨b.High.Age, b.High.Shoots, b.High.Height, s.High⟩ : XStand)⟩ : XBox) := by unfold ref02_Set; rw [h1, cF, h2, cF]; first | done | rfl
    rw [e]
    exact FSat.d pfT 22 (hR 4 (hF :: hE :: hF :: (hR 13 []))) [] (pc h1 <| pc h2 <| pt z26r0 rfl <| pt ((I (s.High) : Value) = I (s.High)) rfl <| pn) (by kernel_rfl) (by kernel_rfl)

/- greenhew/greenhewref02.Narrow -/
noncomputable abbrev z24i0 (l : List XSample) (v6 m100_0 m100_1 m100_2 m100_3 m100_4 m100_5 m100_6 m100_7 : Int) : Hint := (hC (.agg #[I ((ref02_Get (⟨(⟨m100_0, m100_1, m100_2, m100_3⟩ : XStand), (⟨m100_4, m100_5, m100_6, m100_7⟩ : XStand)⟩ : XBox) ((at_ zXSample l v6).Kind)).Low), I ((ref02_Get (⟨(⟨m100_0, m100_1, m100_2, m100_3⟩ : XStand), (⟨m100_4, m100_5, m100_6, m100_7⟩ : XStand)⟩ : XBox) ((at_ zXSample l v6).Kind)).High)]))
theorem z24p1 (l : List XSample) (v6 m100_0 m100_1 m100_2 m100_3 m100_4 m100_5 m100_6 m100_7 : Int) : FC P GG 75 (A_ref02_Get (⟨(⟨m100_0, m100_1, m100_2, m100_3⟩ : XStand), (⟨m100_4, m100_5, m100_6, m100_7⟩ : XStand)⟩ : XBox) ((at_ zXSample l v6).Kind)) [] (.agg #[I ((ref02_Get (⟨(⟨m100_0, m100_1, m100_2, m100_3⟩ : XStand), (⟨m100_4, m100_5, m100_6, m100_7⟩ : XStand)⟩ : XBox) ((at_ zXSample l v6).Kind)).Low), I ((ref02_Get (⟨(⟨m100_0, m100_1, m100_2, m100_3⟩ : XStand), (⟨m100_4, m100_5, m100_6, m100_7⟩ : XStand)⟩ : XBox) ((at_ zXSample l v6).Kind)).High)]) := ref02_Get_fc (⟨(⟨m100_0, m100_1, m100_2, m100_3⟩ : XStand), (⟨m100_4, m100_5, m100_6, m100_7⟩ : XStand)⟩ : XBox) ((at_ zXSample l v6).Kind)
abbrev z24r2 (l : List XSample) (v6 : Int) : Prop := RowLd P 84 (encL cXSample l) (0 + v6.toNat * 3) (I ((at_ zXSample l v6).Kind))
abbrev z24r3 (m100_0 m100_1 m100_2 m100_3 m100_4 m100_5 m100_6 m100_7 : Int) : Prop := (.agg #[I (m100_0), I (m100_1), I (m100_2), I (m100_3), I (m100_4), I (m100_5), I (m100_6), I (m100_7)] : Value) = .agg #[I (m100_0), I (m100_1), I (m100_2), I (m100_3), I (m100_4), I (m100_5), I (m100_6), I (m100_7)]
abbrev z24r4 (l : List XSample) (q10 : Nat) : Prop := (.slice (some ⟨10, 0, none⟩) (l.length) (q10) : Value) = .slice (some ⟨10, 0, none⟩) (l.length) (q10)
abbrev z24r5 (v6 : Int) : Prop := (.pointer (some ⟨10, 0 + v6.toNat * 3, none⟩) : Value) = .pointer (some ⟨10, 0 + v6.toNat * 3, none⟩)
abbrev z24r6 (l : List XSample) (v6 : Int) : Prop := (I ((at_ zXSample l v6).Kind) : Value) = I ((at_ zXSample l v6).Kind)
abbrev z24r7 (l : List XSample) (v6 m100_0 m100_1 m100_2 m100_3 m100_4 m100_5 m100_6 m100_7 : Int) : Prop := (.agg #[I ((ref02_Get (⟨(⟨m100_0, m100_1, m100_2, m100_3⟩ : XStand), (⟨m100_4, m100_5, m100_6, m100_7⟩ : XStand)⟩ : XBox) ((at_ zXSample l v6).Kind)).Low), I ((ref02_Get (⟨(⟨m100_0, m100_1, m100_2, m100_3⟩ : XStand), (⟨m100_4, m100_5, m100_6, m100_7⟩ : XStand)⟩ : XBox) ((at_ zXSample l v6).Kind)).High)] : Value) = .agg #[I ((ref02_Get (⟨(⟨m100_0, m100_1, m100_2, m100_3⟩ : XStand), (⟨m100_4, m100_5, m100_6, m100_7⟩ : XStand)⟩ : XBox) ((at_ zXSample l v6).Kind)).Low), I ((ref02_Get (⟨(⟨m100_0, m100_1, m100_2, m100_3⟩ : XStand), (⟨m100_4, m100_5, m100_6, m100_7⟩ : XStand)⟩ : XBox) ((at_ zXSample l v6).Kind)).High)]
abbrev z24r8 (l : List XSample) (v6 : Int) : Prop := RowLd P 3 (encL cXSample l) (0 + v6.toNat * 3 + 1) (I (((at_ zXSample l v6).Span).Low))
abbrev z24r9 (l : List XSample) (v6 : Int) : Prop := RowLd P 3 (encL cXSample l) (0 + v6.toNat * 3 + 2) (I (((at_ zXSample l v6).Span).High))
noncomputable abbrev z24i10 (l : List XSample) (v6 m100_0 m100_1 m100_2 m100_3 m100_4 m100_5 m100_6 m100_7 : Int) : Hint := (hC (.agg #[I (((ref02_Set (⟨(⟨m100_0, m100_1, m100_2, m100_3⟩ : XStand), (⟨m100_4, m100_5, m100_6, m100_7⟩ : XStand)⟩ : XBox) ((at_ zXSample l v6).Kind) (⟨imax ((ref02_Get (⟨(⟨m100_0, m100_1, m100_2, m100_3⟩ : XStand), (⟨m100_4, m100_5, m100_6, m100_7⟩ : XStand)⟩ : XBox) ((at_ zXSample l v6).Kind)).Low) (((at_ zXSample l v6).Span).Low), imin ((ref02_Get (⟨(⟨m100_0, m100_1, m100_2, m100_3⟩ : XStand), (⟨m100_4, m100_5, m100_6, m100_7⟩ : XStand)⟩ : XBox) ((at_ zXSample l v6).Kind)).High) (((at_ zXSample l v6).Span).High)⟩ : XSpan)).Low).Age), I (((ref02_Set (⟨(⟨m100_0, m100_1, m100_2, m100_3⟩ : XStand), (⟨m100_4, m100_5, m100_6, m100_7⟩ : XStand)⟩ : XBox) ((at_ zXSample l v6).Kind) (⟨imax ((ref02_Get (⟨(⟨m100_0, m100_1, m100_2, m100_3⟩ : XStand), (⟨m100_4, m100_5, m100_6, m100_7⟩ : XStand)⟩ : XBox) ((at_ zXSample l v6).Kind)).Low) (((at_ zXSample l v6).Span).Low), imin ((ref02_Get (⟨(⟨m100_0, m100_1, m100_2, m100_3⟩ : XStand), (⟨m100_4, m100_5, m100_6, m100_7⟩ : XStand)⟩ : XBox) ((at_ zXSample l v6).Kind)).High) (((at_ zXSample l v6).Span).High)⟩ : XSpan)).Low).Shoots), I (((ref02_Set (⟨(⟨m100_0, m100_1, m100_2, m100_3⟩ : XStand), (⟨m100_4, m100_5, m100_6, m100_7⟩ : XStand)⟩ : XBox) ((at_ zXSample l v6).Kind) (⟨imax ((ref02_Get (⟨(⟨m100_0, m100_1, m100_2, m100_3⟩ : XStand), (⟨m100_4, m100_5, m100_6, m100_7⟩ : XStand)⟩ : XBox) ((at_ zXSample l v6).Kind)).Low) (((at_ zXSample l v6).Span).Low), imin ((ref02_Get (⟨(⟨m100_0, m100_1, m100_2, m100_3⟩ : XStand), (⟨m100_4, m100_5, m100_6, m100_7⟩ : XStand)⟩ : XBox) ((at_ zXSample l v6).Kind)).High) (((at_ zXSample l v6).Span).High)⟩ : XSpan)).Low).Height), I (((ref02_Set (⟨(⟨m100_0, m100_1, m100_2, m100_3⟩ : XStand), (⟨m100_4, m100_5, m100_6, m100_7⟩ : XStand)⟩ : XBox) ((at_ zXSample l v6).Kind) (⟨imax ((ref02_Get (⟨(⟨m100_0, m100_1, m100_2, m100_3⟩ : XStand), (⟨m100_4, m100_5, m100_6, m100_7⟩ : XStand)⟩ : XBox) ((at_ zXSample l v6).Kind)).Low) (((at_ zXSample l v6).Span).Low), imin ((ref02_Get (⟨(⟨m100_0, m100_1, m100_2, m100_3⟩ : XStand), (⟨m100_4, m100_5, m100_6, m100_7⟩ : XStand)⟩ : XBox) ((at_ zXSample l v6).Kind)).High) (((at_ zXSample l v6).Span).High)⟩ : XSpan)).Low).Girth), I (((ref02_Set (⟨(⟨m100_0, m100_1, m100_2, m100_3⟩ : XStand), (⟨m100_4, m100_5, m100_6, m100_7⟩ : XStand)⟩ : XBox) ((at_ zXSample l v6).Kind) (⟨imax ((ref02_Get (⟨(⟨m100_0, m100_1, m100_2, m100_3⟩ : XStand), (⟨m100_4, m100_5, m100_6, m100_7⟩ : XStand)⟩ : XBox) ((at_ zXSample l v6).Kind)).Low) (((at_ zXSample l v6).Span).Low), imin ((ref02_Get (⟨(⟨m100_0, m100_1, m100_2, m100_3⟩ : XStand), (⟨m100_4, m100_5, m100_6, m100_7⟩ : XStand)⟩ : XBox) ((at_ zXSample l v6).Kind)).High) (((at_ zXSample l v6).Span).High)⟩ : XSpan)).High).Age), I (((ref02_Set (⟨(⟨m100_0, m100_1, m100_2, m100_3⟩ : XStand), (⟨m100_4, m100_5, m100_6, m100_7⟩ : XStand)⟩ : XBox) ((at_ zXSample l v6).Kind) (⟨imax ((ref02_Get (⟨(⟨m100_0, m100_1, m100_2, m100_3⟩ : XStand), (⟨m100_4, m100_5, m100_6, m100_7⟩ : XStand)⟩ : XBox) ((at_ zXSample l v6).Kind)).Low) (((at_ zXSample l v6).Span).Low), imin ((ref02_Get (⟨(⟨m100_0, m100_1, m100_2, m100_3⟩ : XStand), (⟨m100_4, m100_5, m100_6, m100_7⟩ : XStand)⟩ : XBox) ((at_ zXSample l v6).Kind)).High) (((at_ zXSample l v6).Span).High)⟩ : XSpan)).High).Shoots), I (((ref02_Set (⟨(⟨m100_0, m100_1, m100_2, m100_3⟩ : XStand), (⟨m100_4, m100_5, m100_6, m100_7⟩ : XStand)⟩ : XBox) ((at_ zXSample l v6).Kind) (⟨imax ((ref02_Get (⟨(⟨m100_0, m100_1, m100_2, m100_3⟩ : XStand), (⟨m100_4, m100_5, m100_6, m100_7⟩ : XStand)⟩ : XBox) ((at_ zXSample l v6).Kind)).Low) (((at_ zXSample l v6).Span).Low), imin ((ref02_Get (⟨(⟨m100_0, m100_1, m100_2, m100_3⟩ : XStand), (⟨m100_4, m100_5, m100_6, m100_7⟩ : XStand)⟩ : XBox) ((at_ zXSample l v6).Kind)).High) (((at_ zXSample l v6).Span).High)⟩ : XSpan)).High).Height), I (((ref02_Set (⟨(⟨m100_0, m100_1, m100_2, m100_3⟩ : XStand), (⟨m100_4, m100_5, m100_6, m100_7⟩ : XStand)⟩ : XBox) ((at_ zXSample l v6).Kind) (⟨imax ((ref02_Get (⟨(⟨m100_0, m100_1, m100_2, m100_3⟩ : XStand), (⟨m100_4, m100_5, m100_6, m100_7⟩ : XStand)⟩ : XBox) ((at_ zXSample l v6).Kind)).Low) (((at_ zXSample l v6).Span).Low), imin ((ref02_Get (⟨(⟨m100_0, m100_1, m100_2, m100_3⟩ : XStand), (⟨m100_4, m100_5, m100_6, m100_7⟩ : XStand)⟩ : XBox) ((at_ zXSample l v6).Kind)).High) (((at_ zXSample l v6).Span).High)⟩ : XSpan)).High).Girth)]))
theorem z24p11 (l : List XSample) (v6 m100_0 m100_1 m100_2 m100_3 m100_4 m100_5 m100_6 m100_7 : Int) : FC P GG 82 (A_ref02_Set (⟨(⟨m100_0, m100_1, m100_2, m100_3⟩ : XStand), (⟨m100_4, m100_5, m100_6, m100_7⟩ : XStand)⟩ : XBox) ((at_ zXSample l v6).Kind) (⟨imax ((ref02_Get (⟨(⟨m100_0, m100_1, m100_2, m100_3⟩ : XStand), (⟨m100_4, m100_5, m100_6, m100_7⟩ : XStand)⟩ : XBox) ((at_ zXSample l v6).Kind)).Low) (((at_ zXSample l v6).Span).Low), imin ((ref02_Get (⟨(⟨m100_0, m100_1, m100_2, m100_3⟩ : XStand), (⟨m100_4, m100_5, m100_6, m100_7⟩ : XStand)⟩ : XBox) ((at_ zXSample l v6).Kind)).High) (((at_ zXSample l v6).Span).High)⟩ : XSpan)) [] (.agg #[I (((ref02_Set (⟨(⟨m100_0, m100_1, m100_2, m100_3⟩ : XStand), (⟨m100_4, m100_5, m100_6, m100_7⟩ : XStand)⟩ : XBox) ((at_ zXSample l v6).Kind) (⟨imax ((ref02_Get (⟨(⟨m100_0, m100_1, m100_2, m100_3⟩ : XStand), (⟨m100_4, m100_5, m100_6, m100_7⟩ : XStand)⟩ : XBox) ((at_ zXSample l v6).Kind)).Low) (((at_ zXSample l v6).Span).Low), imin ((ref02_Get (⟨(⟨m100_0, m100_1, m100_2, m100_3⟩ : XStand), (⟨m100_4, m100_5, m100_6, m100_7⟩ : XStand)⟩ : XBox) ((at_ zXSample l v6).Kind)).High) (((at_ zXSample l v6).Span).High)⟩ : XSpan)).Low).Age), I (((ref02_Set (⟨(⟨m100_0, m100_1, m100_2, m100_3⟩ : XStand), (⟨m100_4, m100_5, m100_6, m100_7⟩ : XStand)⟩ : XBox) ((at_ zXSample l v6).Kind) (⟨imax ((ref02_Get (⟨(⟨m100_0, m100_1, m100_2, m100_3⟩ : XStand), (⟨m100_4, m100_5, m100_6, m100_7⟩ : XStand)⟩ : XBox) ((at_ zXSample l v6).Kind)).Low) (((at_ zXSample l v6).Span).Low), imin ((ref02_Get (⟨(⟨m100_0, m100_1, m100_2, m100_3⟩ : XStand), (⟨m100_4, m100_5, m100_6, m100_7⟩ : XStand)⟩ : XBox) ((at_ zXSample l v6).Kind)).High) (((at_ zXSample l v6).Span).High)⟩ : XSpan)).Low).Shoots), I (((ref02_Set (⟨(⟨m100_0, m100_1, m100_2, m100_3⟩ : XStand), (⟨m100_4, m100_5, m100_6, m100_7⟩ : XStand)⟩ : XBox) ((at_ zXSample l v6).Kind) (⟨imax ((ref02_Get (⟨(⟨m100_0, m100_1, m100_2, m100_3⟩ : XStand), (⟨m100_4, m100_5, m100_6, m100_7⟩ : XStand)⟩ : XBox) ((at_ zXSample l v6).Kind)).Low) (((at_ zXSample l v6).Span).Low), imin ((ref02_Get (⟨(⟨m100_0, m100_1, m100_2, m100_3⟩ : XStand), (⟨m100_4, m100_5, m100_6, m100_7⟩ : XStand)⟩ : XBox) ((at_ zXSample l v6).Kind)).High) (((at_ zXSample l v6).Span).High)⟩ : XSpan)).Low).Height), I (((ref02_Set (⟨(⟨m100_0, m100_1, m100_2, m100_3⟩ : XStand), (⟨m100_4, m100_5, m100_6, m100_7⟩ : XStand)⟩ : XBox) ((at_ zXSample l v6).Kind) (⟨imax ((ref02_Get (⟨(⟨m100_0, m100_1, m100_2, m100_3⟩ : XStand), (⟨m100_4, m100_5, m100_6, m100_7⟩ : XStand)⟩ : XBox) ((at_ zXSample l v6).Kind)).Low) (((at_ zXSample l v6).Span).Low), imin ((ref02_Get (⟨(⟨m100_0, m100_1, m100_2, m100_3⟩ : XStand), (⟨m100_4, m100_5, m100_6, m100_7⟩ : XStand)⟩ : XBox) ((at_ zXSample l v6).Kind)).High) (((at_ zXSample l v6).Span).High)⟩ : XSpan)).Low).Girth), I (((ref02_Set (⟨(⟨m100_0, m100_1, m100_2, m100_3⟩ : XStand), (⟨m100_4, m100_5, m100_6, m100_7⟩ : XStand)⟩ : XBox) ((at_ zXSample l v6).Kind) (⟨imax ((ref02_Get (⟨(⟨m100_0, m100_1, m100_2, m100_3⟩ : XStand), (⟨m100_4, m100_5, m100_6, m100_7⟩ : XStand)⟩ : XBox) ((at_ zXSample l v6).Kind)).Low) (((at_ zXSample l v6).Span).Low), imin ((ref02_Get (⟨(⟨m100_0, m100_1, m100_2, m100_3⟩ : XStand), (⟨m100_4, m100_5, m100_6, m100_7⟩ : XStand)⟩ : XBox) ((at_ zXSample l v6).Kind)).High) (((at_ zXSample l v6).Span).High)⟩ : XSpan)).High).Age), I (((ref02_Set (⟨(⟨m100_0, m100_1, m100_2, m100_3⟩ : XStand), (⟨m100_4, m100_5, m100_6, m100_7⟩ : XStand)⟩ : XBox) ((at_ zXSample l v6).Kind) (⟨imax ((ref02_Get (⟨(⟨m100_0, m100_1, m100_2, m100_3⟩ : XStand), (⟨m100_4, m100_5, m100_6, m100_7⟩ : XStand)⟩ : XBox) ((at_ zXSample l v6).Kind)).Low) (((at_ zXSample l v6).Span).Low), imin ((ref02_Get (⟨(⟨m100_0, m100_1, m100_2, m100_3⟩ : XStand), (⟨m100_4, m100_5, m100_6, m100_7⟩ : XStand)⟩ : XBox) ((at_ zXSample l v6).Kind)).High) (((at_ zXSample l v6).Span).High)⟩ : XSpan)).High).Shoots), I (((ref02_Set (⟨(⟨m100_0, m100_1, m100_2, m100_3⟩ : XStand), (⟨m100_4, m100_5, m100_6, m100_7⟩ : XStand)⟩ : XBox) ((at_ zXSample l v6).Kind) (⟨imax ((ref02_Get (⟨(⟨m100_0, m100_1, m100_2, m100_3⟩ : XStand), (⟨m100_4, m100_5, m100_6, m100_7⟩ : XStand)⟩ : XBox) ((at_ zXSample l v6).Kind)).Low) (((at_ zXSample l v6).Span).Low), imin ((ref02_Get (⟨(⟨m100_0, m100_1, m100_2, m100_3⟩ : XStand), (⟨m100_4, m100_5, m100_6, m100_7⟩ : XStand)⟩ : XBox) ((at_ zXSample l v6).Kind)).High) (((at_ zXSample l v6).Span).High)⟩ : XSpan)).High).Height), I (((ref02_Set (⟨(⟨m100_0, m100_1, m100_2, m100_3⟩ : XStand), (⟨m100_4, m100_5, m100_6, m100_7⟩ : XStand)⟩ : XBox) ((at_ zXSample l v6).Kind) (⟨imax ((ref02_Get (⟨(⟨m100_0, m100_1, m100_2, m100_3⟩ : XStand), (⟨m100_4, m100_5, m100_6, m100_7⟩ : XStand)⟩ : XBox) ((at_ zXSample l v6).Kind)).Low) (((at_ zXSample l v6).Span).Low), imin ((ref02_Get (⟨(⟨m100_0, m100_1, m100_2, m100_3⟩ : XStand), (⟨m100_4, m100_5, m100_6, m100_7⟩ : XStand)⟩ : XBox) ((at_ zXSample l v6).Kind)).High) (((at_ zXSample l v6).Span).High)⟩ : XSpan)).High).Girth)]) := ref02_Set_fc (⟨(⟨m100_0, m100_1, m100_2, m100_3⟩ : XStand), (⟨m100_4, m100_5, m100_6, m100_7⟩ : XStand)⟩ : XBox) ((at_ zXSample l v6).Kind) (⟨imax ((ref02_Get (⟨(⟨m100_0, m100_1, m100_2, m100_3⟩ : XStand), (⟨m100_4, m100_5, m100_6, m100_7⟩ : XStand)⟩ : XBox) ((at_ zXSample l v6).Kind)).Low) (((at_ zXSample l v6).Span).Low), imin ((ref02_Get (⟨(⟨m100_0, m100_1, m100_2, m100_3⟩ : XStand), (⟨m100_4, m100_5, m100_6, m100_7⟩ : XStand)⟩ : XBox) ((at_ zXSample l v6).Kind)).High) (((at_ zXSample l v6).Span).High)⟩ : XSpan)
abbrev A_ref02_Narrow (b : XBox) (l : List XSample) (q10 : Nat) : List Value := [.agg #[I (b.Low.Age), I (b.Low.Shoots), I (b.Low.Height), I (b.Low.Girth), I (b.High.Age), I (b.High.Shoots), I (b.High.Height), I (b.High.Girth)], .slice (some ⟨10, 0, none⟩) (l.length) (q10)]
abbrev K_ref02_Narrow (l : List XSample) : List (Nat × List Value) := [(10, encL cXSample l)]
noncomputable def ref02_Narrow_L (fu : Nat) (b : XBox) (l : List XSample) : Nat → (Bool → Int → Int → Int → Int → Int → Int → Int → Int → Int → Option (XBox × Bool))
  | 0 => (fun _ _ _ _ _ _ _ _ _ _ => none)
  | fk + 1 => (fun v5 v6 m100_0 m100_1 m100_2 m100_3 m100_4 m100_5 m100_6 m100_7 => bif decide (v6 < ((l.length : Nat) : Int)) then (bif decide (0 ≤ v6 ∧ v6 < ((l.length : Nat) : Int)) then (bif decide ((imax ((ref02_Get (⟨(⟨m100_0, m100_1, m100_2, m100_3⟩ : XStand), (⟨m100_4, m100_5, m100_6, m100_7⟩ : XStand)⟩ : XBox) ((at_ zXSample l v6).Kind)).Low) (((at_ zXSample l v6).Span).Low)) > (imin ((ref02_Get (⟨(⟨m100_0, m100_1, m100_2, m100_3⟩ : XStand), (⟨m100_4, m100_5, m100_6, m100_7⟩ : XStand)⟩ : XBox) ((at_ zXSample l v6).Kind)).High) (((at_ zXSample l v6).Span).High))) then some ((⟨(⟨0, 0, 0, 0⟩ : XStand), (⟨0, 0, 0, 0⟩ : XStand)⟩ : XBox), false)
        else ref02_Narrow_L fu b l fk v5 (W (v6 + 1)) (((ref02_Set (⟨(⟨m100_0, m100_1, m100_2, m100_3⟩ : XStand), (⟨m100_4, m100_5, m100_6, m100_7⟩ : XStand)⟩ : XBox) ((at_ zXSample l v6).Kind) (⟨imax ((ref02_Get (⟨(⟨m100_0, m100_1, m100_2, m100_3⟩ : XStand), (⟨m100_4, m100_5, m100_6, m100_7⟩ : XStand)⟩ : XBox) ((at_ zXSample l v6).Kind)).Low) (((at_ zXSample l v6).Span).Low), imin ((ref02_Get (⟨(⟨m100_0, m100_1, m100_2, m100_3⟩ : XStand), (⟨m100_4, m100_5, m100_6, m100_7⟩ : XStand)⟩ : XBox) ((at_ zXSample l v6).Kind)).High) (((at_ zXSample l v6).Span).High)⟩ : XSpan)).Low).Age) (((ref02_Set (⟨(⟨m100_0, m100_1, m100_2, m100_3⟩ : XStand), (⟨m100_4, m100_5, m100_6, m100_7⟩ : XStand)⟩ : XBox) ((at_ zXSample l v6).Kind) (⟨imax ((ref02_Get (⟨(⟨m100_0, m100_1, m100_2, m100_3⟩ : XStand), (⟨m100_4, m100_5, m100_6, m100_7⟩ : XStand)⟩ : XBox) ((at_ zXSample l v6).Kind)).Low) (((at_ zXSample l v6).Span).Low), imin ((ref02_Get (⟨(⟨m100_0, m100_1, m100_2, m100_3⟩ : XStand), (⟨m100_4, m100_5, m100_6, m100_7⟩ : XStand)⟩ : XBox) ((at_ zXSample l v6).Kind)).High) (((at_ zXSample l v6).Span).High)⟩ : XSpan)).Low).Shoots) (((ref02_Set (⟨(⟨m100_0, m100_1, m100_2, m100_3⟩ : XStand), (⟨m100_4, m100_5, m100_6, m100_7⟩ : XStand)⟩ : XBox) ((at_ zXSample l v6).Kind) (⟨imax ((ref02_Get (⟨(⟨m100_0, m100_1, m100_2, m100_3⟩ : XStand), (⟨m100_4, m100_5, m100_6, m100_7⟩ : XStand)⟩ : XBox) ((at_ zXSample l v6).Kind)).Low) (((at_ zXSample l v6).Span).Low), imin ((ref02_Get (⟨(⟨m100_0, m100_1, m100_2, m100_3⟩ : XStand), (⟨m100_4, m100_5, m100_6, m100_7⟩ : XStand)⟩ : XBox) ((at_ zXSample l v6).Kind)).High) (((at_ zXSample l v6).Span).High)⟩ : XSpan)).Low).Height) (((ref02_Set (⟨(⟨m100_0, m100_1, m100_2, m100_3⟩ : XStand), (⟨m100_4, m100_5, m100_6, m100_7⟩ : XStand)⟩ : XBox) ((at_ zXSample l v6).Kind) (⟨imax ((ref02_Get (⟨(⟨m100_0, m100_1, m100_2, m100_3⟩ : XStand), (⟨m100_4, m100_5, m100_6, m100_7⟩ : XStand)⟩ : XBox) ((at_ zXSample l v6).Kind)).Low) (((at_ zXSample l v6).Span).Low), imin ((ref02_Get (⟨(⟨m100_0, m100_1, m100_2, m100_3⟩ : XStand), (⟨m100_4, m100_5, m100_6, m100_7⟩ : XStand)⟩ : XBox) ((at_ zXSample l v6).Kind)).High) (((at_ zXSample l v6).Span).High)⟩ : XSpan)).Low).Girth) (((ref02_Set (⟨(⟨m100_0, m100_1, m100_2, m100_3⟩ : XStand), (⟨m100_4, m100_5, m100_6, m100_7⟩ : XStand)⟩ : XBox) ((at_ zXSample l v6).Kind) (⟨imax ((ref02_Get (⟨(⟨m100_0, m100_1, m100_2, m100_3⟩ : XStand), (⟨m100_4, m100_5, m100_6, m100_7⟩ : XStand)⟩ : XBox) ((at_ zXSample l v6).Kind)).Low) (((at_ zXSample l v6).Span).Low), imin ((ref02_Get (⟨(⟨m100_0, m100_1, m100_2, m100_3⟩ : XStand), (⟨m100_4, m100_5, m100_6, m100_7⟩ : XStand)⟩ : XBox) ((at_ zXSample l v6).Kind)).High) (((at_ zXSample l v6).Span).High)⟩ : XSpan)).High).Age) (((ref02_Set (⟨(⟨m100_0, m100_1, m100_2, m100_3⟩ : XStand), (⟨m100_4, m100_5, m100_6, m100_7⟩ : XStand)⟩ : XBox) ((at_ zXSample l v6).Kind) (⟨imax ((ref02_Get (⟨(⟨m100_0, m100_1, m100_2, m100_3⟩ : XStand), (⟨m100_4, m100_5, m100_6, m100_7⟩ : XStand)⟩ : XBox) ((at_ zXSample l v6).Kind)).Low) (((at_ zXSample l v6).Span).Low), imin ((ref02_Get (⟨(⟨m100_0, m100_1, m100_2, m100_3⟩ : XStand), (⟨m100_4, m100_5, m100_6, m100_7⟩ : XStand)⟩ : XBox) ((at_ zXSample l v6).Kind)).High) (((at_ zXSample l v6).Span).High)⟩ : XSpan)).High).Shoots) (((ref02_Set (⟨(⟨m100_0, m100_1, m100_2, m100_3⟩ : XStand), (⟨m100_4, m100_5, m100_6, m100_7⟩ : XStand)⟩ : XBox) ((at_ zXSample l v6).Kind) (⟨imax ((ref02_Get (⟨(⟨m100_0, m100_1, m100_2, m100_3⟩ : XStand), (⟨m100_4, m100_5, m100_6, m100_7⟩ : XStand)⟩ : XBox) ((at_ zXSample l v6).Kind)).Low) (((at_ zXSample l v6).Span).Low), imin ((ref02_Get (⟨(⟨m100_0, m100_1, m100_2, m100_3⟩ : XStand), (⟨m100_4, m100_5, m100_6, m100_7⟩ : XStand)⟩ : XBox) ((at_ zXSample l v6).Kind)).High) (((at_ zXSample l v6).Span).High)⟩ : XSpan)).High).Height) (((ref02_Set (⟨(⟨m100_0, m100_1, m100_2, m100_3⟩ : XStand), (⟨m100_4, m100_5, m100_6, m100_7⟩ : XStand)⟩ : XBox) ((at_ zXSample l v6).Kind) (⟨imax ((ref02_Get (⟨(⟨m100_0, m100_1, m100_2, m100_3⟩ : XStand), (⟨m100_4, m100_5, m100_6, m100_7⟩ : XStand)⟩ : XBox) ((at_ zXSample l v6).Kind)).Low) (((at_ zXSample l v6).Span).Low), imin ((ref02_Get (⟨(⟨m100_0, m100_1, m100_2, m100_3⟩ : XStand), (⟨m100_4, m100_5, m100_6, m100_7⟩ : XStand)⟩ : XBox) ((at_ zXSample l v6).Kind)).High) (((at_ zXSample l v6).Span).High)⟩ : XSpan)).High).Girth)) else none)
      else some ((⟨(⟨m100_0, m100_1, m100_2, m100_3⟩ : XStand), (⟨m100_4, m100_5, m100_6, m100_7⟩ : XStand)⟩ : XBox), true))
theorem ref02_Narrow_L_s0 (fu : Nat) (b : XBox) (l : List XSample) (fk : Nat) (v5 : Bool) (v6 m100_0 m100_1 m100_2 m100_3 m100_4 m100_5 m100_6 m100_7 : Int) : ref02_Narrow_L fu b l (fk + 1) v5 v6 m100_0 m100_1 m100_2 m100_3 m100_4 m100_5 m100_6 m100_7 = (bif decide (v6 < ((l.length : Nat) : Int)) then (bif decide (0 ≤ v6 ∧ v6 < ((l.length : Nat) : Int)) then (bif decide ((imax ((ref02_Get (⟨(⟨m100_0, m100_1, m100_2, m100_3⟩ : XStand), (⟨m100_4, m100_5, m100_6, m100_7⟩ : XStand)⟩ : XBox) ((at_ zXSample l v6).Kind)).Low) (((at_ zXSample l v6).Span).Low)) > (imin ((ref02_Get (⟨(⟨m100_0, m100_1, m100_2, m100_3⟩ : XStand), (⟨m100_4, m100_5, m100_6, m100_7⟩ : XStand)⟩ : XBox) ((at_ zXSample l v6).Kind)).High) (((at_ zXSample l v6).Span).High))) then some ((⟨(⟨0, 0, 0, 0⟩ : XStand), (⟨0, 0, 0, 0⟩ : XStand)⟩ : XBox), false)
        else ref02_Narrow_L fu b l fk v5 (W (v6 + 1)) (((ref02_Set (⟨(⟨m100_0, m100_1, m100_2, m100_3⟩ : XStand), (⟨m100_4, m100_5, m100_6, m100_7⟩ : XStand)⟩ : XBox) ((at_ zXSample l v6).Kind) (⟨imax ((ref02_Get (⟨(⟨m100_0, m100_1, m100_2, m100_3⟩ : XStand), (⟨m100_4, m100_5, m100_6, m100_7⟩ : XStand)⟩ : XBox) ((at_ zXSample l v6).Kind)).Low) (((at_ zXSample l v6).Span).Low), imin ((ref02_Get (⟨(⟨m100_0, m100_1, m100_2, m100_3⟩ : XStand), (⟨m100_4, m100_5, m100_6, m100_7⟩ : XStand)⟩ : XBox) ((at_ zXSample l v6).Kind)).High) (((at_ zXSample l v6).Span).High)⟩ : XSpan)).Low).Age) (((ref02_Set (⟨(⟨m100_0, m100_1, m100_2, m100_3⟩ : XStand), (⟨m100_4, m100_5, m100_6, m100_7⟩ : XStand)⟩ : XBox) ((at_ zXSample l v6).Kind) (⟨imax ((ref02_Get (⟨(⟨m100_0, m100_1, m100_2, m100_3⟩ : XStand), (⟨m100_4, m100_5, m100_6, m100_7⟩ : XStand)⟩ : XBox) ((at_ zXSample l v6).Kind)).Low) (((at_ zXSample l v6).Span).Low), imin ((ref02_Get (⟨(⟨m100_0, m100_1, m100_2, m100_3⟩ : XStand), (⟨m100_4, m100_5, m100_6, m100_7⟩ : XStand)⟩ : XBox) ((at_ zXSample l v6).Kind)).High) (((at_ zXSample l v6).Span).High)⟩ : XSpan)).Low).Shoots) (((ref02_Set (⟨(⟨m100_0, m100_1, m100_2, m100_3⟩ : XStand), (⟨m100_4, m100_5, m100_6, m100_7⟩ : XStand)⟩ : XBox) ((at_ zXSample l v6).Kind) (⟨imax ((ref02_Get (⟨(⟨m100_0, m100_1, m100_2, m100_3⟩ : XStand), (⟨m100_4, m100_5, m100_6, m100_7⟩ : XStand)⟩ : XBox) ((at_ zXSample l v6).Kind)).Low) (((at_ zXSample l v6).Span).Low), imin ((ref02_Get (⟨(⟨m100_0, m100_1, m100_2, m100_3⟩ : XStand), (⟨m100_4, m100_5, m100_6, m100_7⟩ : XStand)⟩ : XBox) ((at_ zXSample l v6).Kind)).High) (((at_ zXSample l v6).Span).High)⟩ : XSpan)).Low).Height) (((ref02_Set (⟨(⟨m100_0, m100_1, m100_2, m100_3⟩ : XStand), (⟨m100_4, m100_5, m100_6, m100_7⟩ : XStand)⟩ : XBox) ((at_ zXSample l v6).Kind) (⟨imax ((ref02_Get (⟨(⟨m100_0, m100_1, m100_2, m100_3⟩ : XStand), (⟨m100_4, m100_5, m100_6, m100_7⟩ : XStand)⟩ : XBox) ((at_ zXSample l v6).Kind)).Low) (((at_ zXSample l v6).Span).Low), imin ((ref02_Get (⟨(⟨m100_0, m100_1, m100_2, m100_3⟩ : XStand), (⟨m100_4, m100_5, m100_6, m100_7⟩ : XStand)⟩ : XBox) ((at_ zXSample l v6).Kind)).High) (((at_ zXSample l v6).Span).High)⟩ : XSpan)).Low).Girth) (((ref02_Set (⟨(⟨m100_0, m100_1, m100_2, m100_3⟩ : XStand), (⟨m100_4, m100_5, m100_6, m100_7⟩ : XStand)⟩ : XBox) ((at_ zXSample l v6).Kind) (⟨imax ((ref02_Get (⟨(⟨m100_0, m100_1, m100_2, m100_3⟩ : XStand), (⟨m100_4, m100_5, m100_6, m100_7⟩ : XStand)⟩ : XBox) ((at_ zXSample l v6).Kind)).Low) (((at_ zXSample l v6).Span).Low), imin ((ref02_Get (⟨(⟨m100_0, m100_1, m100_2, m100_3⟩ : XStand), (⟨m100_4, m100_5, m100_6, m100_7⟩ : XStand)⟩ : XBox) ((at_ zXSample l v6).Kind)).High) (((at_ zXSample l v6).Span).High)⟩ : XSpan)).High).Age) (((ref02_Set (⟨(⟨m100_0, m100_1, m100_2, m100_3⟩ : XStand), (⟨m100_4, m100_5, m100_6, m100_7⟩ : XStand)⟩ : XBox) ((at_ zXSample l v6).Kind) (⟨imax ((ref02_Get (⟨(⟨m100_0, m100_1, m100_2, m100_3⟩ : XStand), (⟨m100_4, m100_5, m100_6, m100_7⟩ : XStand)⟩ : XBox) ((at_ zXSample l v6).Kind)).Low) (((at_ zXSample l v6).Span).Low), imin ((ref02_Get (⟨(⟨m100_0, m100_1, m100_2, m100_3⟩ : XStand), (⟨m100_4, m100_5, m100_6, m100_7⟩ : XStand)⟩ : XBox) ((at_ zXSample l v6).Kind)).High) (((at_ zXSample l v6).Span).High)⟩ : XSpan)).High).Shoots) (((ref02_Set (⟨(⟨m100_0, m100_1, m100_2, m100_3⟩ : XStand), (⟨m100_4, m100_5, m100_6, m100_7⟩ : XStand)⟩ : XBox) ((at_ zXSample l v6).Kind) (⟨imax ((ref02_Get (⟨(⟨m100_0, m100_1, m100_2, m100_3⟩ : XStand), (⟨m100_4, m100_5, m100_6, m100_7⟩ : XStand)⟩ : XBox) ((at_ zXSample l v6).Kind)).Low) (((at_ zXSample l v6).Span).Low), imin ((ref02_Get (⟨(⟨m100_0, m100_1, m100_2, m100_3⟩ : XStand), (⟨m100_4, m100_5, m100_6, m100_7⟩ : XStand)⟩ : XBox) ((at_ zXSample l v6).Kind)).High) (((at_ zXSample l v6).Span).High)⟩ : XSpan)).High).Height) (((ref02_Set (⟨(⟨m100_0, m100_1, m100_2, m100_3⟩ : XStand), (⟨m100_4, m100_5, m100_6, m100_7⟩ : XStand)⟩ : XBox) ((at_ zXSample l v6).Kind) (⟨imax ((ref02_Get (⟨(⟨m100_0, m100_1, m100_2, m100_3⟩ : XStand), (⟨m100_4, m100_5, m100_6, m100_7⟩ : XStand)⟩ : XBox) ((at_ zXSample l v6).Kind)).Low) (((at_ zXSample l v6).Span).Low), imin ((ref02_Get (⟨(⟨m100_0, m100_1, m100_2, m100_3⟩ : XStand), (⟨m100_4, m100_5, m100_6, m100_7⟩ : XStand)⟩ : XBox) ((at_ zXSample l v6).Kind)).High) (((at_ zXSample l v6).Span).High)⟩ : XSpan)).High).Girth)) else none)
      else some ((⟨(⟨m100_0, m100_1, m100_2, m100_3⟩ : XStand), (⟨m100_4, m100_5, m100_6, m100_7⟩ : XStand)⟩ : XBox), true)) := rfl
noncomputable def ref02_Narrow (fu : Nat) (b : XBox) (l : List XSample) : Option (XBox × Bool) :=
  ref02_Narrow_L fu b l fu false 0 b.Low.Age b.Low.Shoots b.Low.Height b.Low.Girth b.High.Age b.High.Shoots b.High.Height b.High.Girth
theorem ref02_Narrow_L_fs (fu : Nat) (b : XBox) (l : List XSample) (q10 : Nat) : ∀ fk, (∀ (v5 : Bool) (v6 m100_0 m100_1 m100_2 m100_3 m100_4 m100_5 m100_6 m100_7 : Int) (r : XBox × Bool), ref02_Narrow_L fu b l fk v5 v6 m100_0 m100_1 m100_2 m100_3 m100_4 m100_5 m100_6 m100_7 = some r → FSat P GG Tryd.f46 (.tuple #[.agg #[I (r.1.Low.Age), I (r.1.Low.Shoots), I (r.1.Low.Height), I (r.1.Low.Girth), I (r.1.High.Age), I (r.1.High.Shoots), I (r.1.High.Height), I (r.1.High.Girth)], .bool (r.2)]) (ids (looses (K_ref02_Narrow l))) 55 [.lp (cA (bodyOf Tryd.f46) [1, 0, 1, 0, 0]), .blk 0, .code (cA (bodyOf Tryd.f46) [1, 1])] (tOf 55 [(1, .slice (some ⟨10, 0, none⟩) (l.length) (q10)), (2, .pointer (some ⟨100, 0, none⟩)), (4, .pointer (some ⟨101, 0, none⟩)), (5, .bool (v5)), (6, I (v6))]) (mOf 102 [(0, .rom [I (1), I (2), I (3)] .glob), (10, .rom (encL cXSample l) .loose), (100, .row [I (m100_0), I (m100_1), I (m100_2), I (m100_3), I (m100_4), I (m100_5), I (m100_6), I (m100_7)] 0), (101, .row [I (0), I (0), I (0), I (0), I (0), I (0), I (0), I (0)] 0)])) := by
  intro fk
  induction fk with
  | zero => exact fun _ _ _ _ _ _ _ _ _ _ r hh => by cases hh
  | succ fk ih =>
    · intro v5 v6 m100_0 m100_1 m100_2 m100_3 m100_4 m100_5 m100_6 m100_7 r hh
      rw [ref02_Narrow_L_s0] at hh
      rcases bb (decide (v6 < ((l.length : Nat) : Int))) with h1 | h1
      ·rw [h1, cT] at hh
       rcases bb (decide (0 ≤ v6 ∧ v6 < ((l.length : Nat) : Int))) with h2 | h2
       rotate_left
       ·rw [h2, cF] at hh; cases hh
       ·rw [h2, cT] at hh
        rcases bb (decide ((imax ((ref02_Get (⟨(⟨m100_0, m100_1, m100_2, m100_3⟩ : XStand), (⟨m100_4, m100_5, m100_6, m100_7⟩ : XStand)⟩ : XBox) ((at_ zXSample l v6).Kind)).Low) (((at_ zXSample l v6).Span).Low)) > (imin ((ref02_Get (⟨(⟨m100_0, m100_1, m100_2, m100_3⟩ : XStand), (⟨m100_4, m100_5, m100_6, m100_7⟩ : XStand)⟩ : XBox) ((at_ zXSample l v6).Kind)).High) (((at_ zXSample l v6).Span).High)))) with h3 | h3
        ·rw [h3, cT] at hh
         rw [← sI hh]
         exact FSat.d pfT 24 (hE :: hE :: hE :: hT :: hE :: hE :: hE :: hX :: hE :: (hL (I ((at_ zXSample l v6).Kind))) :: (z24i0 l v6 m100_0 m100_1 m100_2 m100_3 m100_4 m100_5 m100_6 m100_7) :: (hR 6 (hX :: hE :: hE :: (hL (I (((at_ zXSample l v6).Span).Low))) :: (hR 5 (hX :: hE :: hE :: (hL (I (((at_ zXSample l v6).Span).High))) :: (hR 7 [hT, hE, hE, hE])))))) [.go] (pc h1 <| pt (0 ≤ v6 ∧ v6 < ((l.length : Nat) : Int)) (of_decide_eq_true h2) <| pt (z24r2 l v6) (RowLd.part cXSample_len _ rfl rfl _ _ (of_decide_eq_true h2) 0 _ rfl (by decide)) <| pc (z24p1 l v6 m100_0 m100_1 m100_2 m100_3 m100_4 m100_5 m100_6 m100_7) <| pt (z24r3 m100_0 m100_1 m100_2 m100_3 m100_4 m100_5 m100_6 m100_7) rfl <| pt (z24r4 l q10) rfl <| pt ((I (v6) : Value) = I (v6)) rfl <| pt (0 ≤ v6 ∧ v6 < ((l.length : Nat) : Int)) (of_decide_eq_true h2) <| pt (z24r5 v6) rfl <| pt (z24r5 v6) rfl <| pt (z24r2 l v6) (RowLd.part cXSample_len _ rfl rfl _ _ (of_decide_eq_true h2) 0 _ rfl (by decide)) <| pt (z24r6 l v6) rfl <| pc (z24p1 l v6 m100_0 m100_1 m100_2 m100_3 m100_4 m100_5 m100_6 m100_7) <| pt (z24r7 l v6 m100_0 m100_1 m100_2 m100_3 m100_4 m100_5 m100_6 m100_7) rfl <| pt (0 ≤ v6 ∧ v6 < ((l.length : Nat) : Int)) (of_decide_eq_true h2) <| pt (z24r8 l v6) (RowLd.part cXSample_len _ rfl rfl _ _ (of_decide_eq_true h2) 1 _ rfl (by decide)) <| pt (0 ≤ v6 ∧ v6 < ((l.length : Nat) : Int)) (of_decide_eq_true h2) <| pt (z24r9 l v6) (RowLd.part cXSample_len _ rfl rfl _ _ (of_decide_eq_true h2) 2 _ rfl (by decide)) <| pc h3 <| pn) (by kernel_rfl) (by kernel_rfl)
        ·rw [h3, cF] at hh
         have nx := ih v5 (W (v6 + 1)) (((ref02_Set (⟨(⟨m100_0, m100_1, m100_2, m100_3⟩ : XStand), (⟨m100_4, m100_5, m100_6, m100_7⟩ : XStand)⟩ : XBox) ((at_ zXSample l v6).Kind) (⟨imax ((ref02_Get (⟨(⟨m100_0, m100_1, m100_2, m100_3⟩ : XStand), (⟨m100_4, m100_5, m100_6, m100_7⟩ : XStand)⟩ : XBox) ((at_ zXSample l v6).Kind)).Low) (((at_ zXSample l v6).Span).Low), imin ((ref02_Get (⟨(⟨m100_0, m100_1, m100_2, m100_3⟩ : XStand), (⟨m100_4, m100_5, m100_6, m100_7⟩ : XStand)⟩ : XBox) ((at_ zXSample l v6).Kind)).High) (((at_ zXSample l v6).Span).High)⟩ : XSpan)).Low).Age) (((ref02_Set (⟨(⟨m100_0, m100_1, m100_2, m100_3⟩ : XStand), (⟨m100_4, m100_5, m100_6, m100_7⟩ : XStand)⟩ : XBox) ((at_ zXSample l v6).Kind) (⟨imax ((ref02_Get (⟨(⟨m100_0, m100_1, m100_2, m100_3⟩ : XStand), (⟨m100_4, m100_5, m100_6, m100_7⟩ : XStand)⟩ : XBox) ((at_ zXSample l v6).Kind)).Low) (((at_ zXSample l v6).Span).Low), imin ((ref02_Get (⟨(⟨m100_0, m100_1, m100_2, m100_3⟩ : XStand), (⟨m100_4, m100_5, m100_6, m100_7⟩ : XStand)⟩ : XBox) ((at_ zXSample l v6).Kind)).High) (((at_ zXSample l v6).Span).High)⟩ : XSpan)).Low).Shoots) (((ref02_Set (⟨(⟨m100_0, m100_1, m100_2, m100_3⟩ : XStand), (⟨m100_4, m100_5, m100_6, m100_7⟩ : XStand)⟩ : XBox) ((at_ zXSample l v6).Kind) (⟨imax ((ref02_Get (⟨(⟨m100_0, m100_1, m100_2, m100_3⟩ : XStand), (⟨m100_4, m100_5, m100_6, m100_7⟩ : XStand)⟩ : XBox) ((at_ zXSample l v6).Kind)).Low) (((at_ zXSample l v6).Span).Low), imin ((ref02_Get (⟨(⟨m100_0, m100_1, m100_2, m100_3⟩ : XStand), (⟨m100_4, m100_5, m100_6, m100_7⟩ : XStand)⟩ : XBox) ((at_ zXSample l v6).Kind)).High) (((at_ zXSample l v6).Span).High)⟩ : XSpan)).Low).Height) (((ref02_Set (⟨(⟨m100_0, m100_1, m100_2, m100_3⟩ : XStand), (⟨m100_4, m100_5, m100_6, m100_7⟩ : XStand)⟩ : XBox) ((at_ zXSample l v6).Kind) (⟨imax ((ref02_Get (⟨(⟨m100_0, m100_1, m100_2, m100_3⟩ : XStand), (⟨m100_4, m100_5, m100_6, m100_7⟩ : XStand)⟩ : XBox) ((at_ zXSample l v6).Kind)).Low) (((at_ zXSample l v6).Span).Low), imin ((ref02_Get (⟨(⟨m100_0, m100_1, m100_2, m100_3⟩ : XStand), (⟨m100_4, m100_5, m100_6, m100_7⟩ : XStand)⟩ : XBox) ((at_ zXSample l v6).Kind)).High) (((at_ zXSample l v6).Span).High)⟩ : XSpan)).Low).Girth) (((ref02_Set (⟨(⟨m100_0, m100_1, m100_2, m100_3⟩ : XStand), (⟨m100_4, m100_5, m100_6, m100_7⟩ : XStand)⟩ : XBox) ((at_ zXSample l v6).Kind) (⟨imax ((ref02_Get (⟨(⟨m100_0, m100_1, m100_2, m100_3⟩ : XStand), (⟨m100_4, m100_5, m100_6, m100_7⟩ : XStand)⟩ : XBox) ((at_ zXSample l v6).Kind)).Low) (((at_ zXSample l v6).Span).Low), imin ((ref02_Get (⟨(⟨m100_0, m100_1, m100_2, m100_3⟩ : XStand), (⟨m100_4, m100_5, m100_6, m100_7⟩ : XStand)⟩ : XBox) ((at_ zXSample l v6).Kind)).High) (((at_ zXSample l v6).Span).High)⟩ : XSpan)).High).Age) (((ref02_Set (⟨(⟨m100_0, m100_1, m100_2, m100_3⟩ : XStand), (⟨m100_4, m100_5, m100_6, m100_7⟩ : XStand)⟩ : XBox) ((at_ zXSample l v6).Kind) (⟨imax ((ref02_Get (⟨(⟨m100_0, m100_1, m100_2, m100_3⟩ : XStand), (⟨m100_4, m100_5, m100_6, m100_7⟩ : XStand)⟩ : XBox) ((at_ zXSample l v6).Kind)).Low) (((at_ zXSample l v6).Span).Low), imin ((ref02_Get (⟨(⟨m100_0, m100_1, m100_2, m100_3⟩ : XStand), (⟨m100_4, m100_5, m100_6, m100_7⟩ : XStand)⟩ : XBox) ((at_ zXSample l v6).Kind)).High) (((at_ zXSample l v6).Span).High)⟩ : XSpan)).High).Shoots) (((ref02_Set (⟨(⟨m100_0, m100_1, m100_2, m100_3⟩ : XStand), (⟨m100_4, m100_5, m100_6, m100_7⟩ : XStand)⟩ : XBox) ((at_ zXSample l v6).Kind) (⟨imax ((ref02_Get (⟨(⟨m100_0, m100_1, m100_2, m100_3⟩ : XStand), (⟨m100_4, m100_5, m100_6, m100_7⟩ : XStand)⟩ : XBox) ((at_ zXSample l v6).Kind)).Low) (((at_ zXSample l v6).Span).Low), imin ((ref02_Get (⟨(⟨m100_0, m100_1, m100_2, m100_3⟩ : XStand), (⟨m100_4, m100_5, m100_6, m100_7⟩ : XStand)⟩ : XBox) ((at_ zXSample l v6).Kind)).High) (((at_ zXSample l v6).Span).High)⟩ : XSpan)).High).Height) (((ref02_Set (⟨(⟨m100_0, m100_1, m100_2, m100_3⟩ : XStand), (⟨m100_4, m100_5, m100_6, m100_7⟩ : XStand)⟩ : XBox) ((at_ zXSample l v6).Kind) (⟨imax ((ref02_Get (⟨(⟨m100_0, m100_1, m100_2, m100_3⟩ : XStand), (⟨m100_4, m100_5, m100_6, m100_7⟩ : XStand)⟩ : XBox) ((at_ zXSample l v6).Kind)).Low) (((at_ zXSample l v6).Span).Low), imin ((ref02_Get (⟨(⟨m100_0, m100_1, m100_2, m100_3⟩ : XStand), (⟨m100_4, m100_5, m100_6, m100_7⟩ : XStand)⟩ : XBox) ((at_ zXSample l v6).Kind)).High) (((at_ zXSample l v6).Span).High)⟩ : XSpan)).High).Girth) r hh
         refine FSat.s pfT 26 (hE :: hE :: hE :: hT :: hE :: hE :: hE :: hX :: hE :: (hL (I ((at_ zXSample l v6).Kind))) :: (z24i0 l v6 m100_0 m100_1 m100_2 m100_3 m100_4 m100_5 m100_6 m100_7) :: (hR 6 (hX :: hE :: hE :: (hL (I (((at_ zXSample l v6).Span).Low))) :: (hR 5 (hX :: hE :: hE :: (hL (I (((at_ zXSample l v6).Span).High))) :: (hR 7 (hF :: hE :: hE :: hE :: hX :: hE :: (hL (I ((at_ zXSample l v6).Kind))) :: hE :: (z24i10 l v6 m100_0 m100_1 m100_2 m100_3 m100_4 m100_5 m100_6 m100_7) :: (hR 4 [])))))))) [.go, .st [1, 2, 4, 5, 6] [0, 10, 100, 101]] (pc h1 <| pt (0 ≤ v6 ∧ v6 < ((l.length : Nat) : Int)) (of_decide_eq_true h2) <| pt (z24r2 l v6) (RowLd.part cXSample_len _ rfl rfl _ _ (of_decide_eq_true h2) 0 _ rfl (by decide)) <| pc (z24p1 l v6 m100_0 m100_1 m100_2 m100_3 m100_4 m100_5 m100_6 m100_7) <| pt (z24r3 m100_0 m100_1 m100_2 m100_3 m100_4 m100_5 m100_6 m100_7) rfl <| pt (z24r4 l q10) rfl <| pt ((I (v6) : Value) = I (v6)) rfl <| pt (0 ≤ v6 ∧ v6 < ((l.length : Nat) : Int)) (of_decide_eq_true h2) <| pt (z24r5 v6) rfl <| pt (z24r5 v6) rfl <| pt (z24r2 l v6) (RowLd.part cXSample_len _ rfl rfl _ _ (of_decide_eq_true h2) 0 _ rfl (by decide)) <| pt (z24r6 l v6) rfl <| pc (z24p1 l v6 m100_0 m100_1 m100_2 m100_3 m100_4 m100_5 m100_6 m100_7) <| pt (z24r7 l v6 m100_0 m100_1 m100_2 m100_3 m100_4 m100_5 m100_6 m100_7) rfl <| pt (0 ≤ v6 ∧ v6 < ((l.length : Nat) : Int)) (of_decide_eq_true h2) <| pt (z24r8 l v6) (RowLd.part cXSample_len _ rfl rfl _ _ (of_decide_eq_true h2) 1 _ rfl (by decide)) <| pt (0 ≤ v6 ∧ v6 < ((l.length : Nat) : Int)) (of_decide_eq_true h2) <| pt (z24r9 l v6) (RowLd.part cXSample_len _ rfl rfl _ _ (of_decide_eq_true h2) 2 _ rfl (by decide)) <| pc h3 <| pt (0 ≤ v6 ∧ v6 < ((l.length : Nat) : Int)) (of_decide_eq_true h2) <| pt (z24r2 l v6) (RowLd.part cXSample_len _ rfl rfl _ _ (of_decide_eq_true h2) 0 _ rfl (by decide)) <| pc (z24p11 l v6 m100_0 m100_1 m100_2 m100_3 m100_4 m100_5 m100_6 m100_7) <| pn) (by kernel_rfl) 102 (by kernel_rfl) ?_ nx
         exact ⟨PinL.lit (by kernel_rfl), PinL.pf (encL_pf cXSample_pf _), PinL.lit (by kernel_rfl), PinL.lit (by kernel_rfl), trivial⟩
      ·rw [h1, cF] at hh
       rw [← sI hh]
       exact FSat.d pfT 14 [hE, hE, hE, hF, hE, hE, hE] [.go] (pc h1 <| pn) (by kernel_rfl) (by kernel_rfl)
theorem ref02_Narrow_fc (fu : Nat) (b : XBox) (l : List XSample) (q10 : Nat) (r : XBox × Bool) (hh : ref02_Narrow fu b l = some r) : FC P GG 46 (A_ref02_Narrow b l q10) (K_ref02_Narrow l) (.tuple #[.agg #[I (r.1.Low.Age), I (r.1.Low.Shoots), I (r.1.Low.Height), I (r.1.Low.Girth), I (r.1.High.Age), I (r.1.High.Shoots), I (r.1.High.Height), I (r.1.High.Girth)], .bool (r.2)]) := by
  refine FC.of_fsat 55 100 Tryd.func46 (by kernel_rfl) (by kernel_rfl) (by kernel_rfl) ⟨PinL.pf (encL_pf cXSample_pf _), trivial⟩ ?_
  unfold ref02_Narrow at hh
  have nx := ref02_Narrow_L_fs fu b l q10 fu false 0 b.Low.Age b.Low.Shoots b.Low.Height b.Low.Girth b.High.Age b.High.Shoots b.High.Height b.High.Girth r hh
  refine FSat.s pfT 13 (hR 4 []) [.st [1, 2, 4, 5, 6] [0, 10, 100, 101]] (pn) (by kernel_rfl) 102 (by kernel_rfl) ?_ nx
  exact ⟨PinL.lit (by kernel_rfl), PinL.pf (encL_pf cXSample_pf _), PinL.lit (by kernel_rfl), PinL.lit (by kernel_rfl), trivial⟩

structure XRung where
  Height : Int
  Shoots : Int

def zXRung : XRung := ⟨0, 0⟩

structure XSpecies where
  Rise : List Int
  Thick : List Int
  Top : Int
  Stout : Int
  Shade : Int
  Reach : Int
  Ladder : List XRung
  Sprouts : List XSpan

def zXSpecies : XSpecies := ⟨[], [], 0, 0, 0, 0, [], []⟩

def cInt (x : Int) : List Value := [I (x)]
theorem cInt_len (x : Int) : (cInt x).length = 1 := rfl
theorem cInt_pf : ∀ (x : Int), ∀ v ∈ cInt x, pf v = true := by
  intro x v hv
  simp only [cInt, List.mem_cons, List.not_mem_nil, or_false] at hv
  subst hv; rfl

def cXRung (x : XRung) : List Value := [I (x.Height), I (x.Shoots)]
theorem cXRung_len (x : XRung) : (cXRung x).length = 2 := rfl
theorem cXRung_pf : ∀ (x : XRung), ∀ v ∈ cXRung x, pf v = true := by
  intro x v hv
  simp only [cXRung, List.mem_cons, List.not_mem_nil, or_false] at hv
  rcases hv with rfl | rfl <;> rfl

def cXSpan (x : XSpan) : List Value := [I (x.Low), I (x.High)]
theorem cXSpan_len (x : XSpan) : (cXSpan x).length = 2 := rfl
theorem cXSpan_pf : ∀ (x : XSpan), ∀ v ∈ cXSpan x, pf v = true := by
  intro x v hv
  simp only [cXSpan, List.mem_cons, List.not_mem_nil, or_false] at hv
  rcases hv with rfl | rfl <;> rfl

structure XWeather where
  Light : Int
  Browse : Int
  Mild : Int

def zXWeather : XWeather := ⟨0, 0, 0⟩

/- greenhew/growth.yearsAreDefined$1 -/
abbrev A_growth_yearsAreDefined_1 (n : Int) : List Value := [I (n), .pointer (some ⟨10, 0, none⟩)]
abbrev K_growth_yearsAreDefined_1 (a1 : Int) : List (Nat × List Value) := [(10, [I (a1)])]
noncomputable def growth_yearsAreDefined_1 (n a1 : Int) : Bool :=
  growth_within n 0 a1
theorem growth_yearsAreDefined_1_fc (n a1 : Int) : FC P GG 118 (A_growth_yearsAreDefined_1 n) (K_growth_yearsAreDefined_1 a1) (.bool (growth_yearsAreDefined_1 n a1)) := by
  refine FC.of_fsat 7 100 Tryd.func118 (by kernel_rfl) (by kernel_rfl) (by kernel_rfl) ⟨PinL.lit (by kernel_rfl), trivial⟩ ?_
  have e : growth_yearsAreDefined_1 n a1 = growth_within n 0 a1 := by unfold growth_yearsAreDefined_1; rfl
  rw [e]
  exact FSat.d pfT 10 [hE, hE, hE, (hC (.bool (growth_within n 0 a1))), hE] [] (pc (growth_within_fc n 0 a1) <| pn) (by kernel_rfl) (by kernel_rfl)

/- greenhew/growth.all[int] -/
noncomputable abbrev z31i0 (l : List Int) (holds_0 v9 : Int) : Hint := (hB (hM (.bool (growth_yearsAreDefined_1 (at_ 0 l v9) holds_0)) (.bool (growth_yearsAreDefined_1 (at_ 0 l v9) holds_0)) (A_growth_yearsAreDefined_1 (at_ 0 l v9)) (K_growth_yearsAreDefined_1 holds_0) [(10, 11, 0)]) true)
theorem z31p1 (l : List Int) (v9 : Int) : VRs (Ren.emb [(10, 11, 0)]) (A_growth_yearsAreDefined_1 (at_ 0 l v9)) [I ((at_ 0 l v9)), .pointer (some ⟨11, 0, none⟩)] := (.cons _ _ _ _ (VR.of_pf rfl) (.cons _ _ _ _ (.ptr 10 0 ⟨11, 0, 0, 0⟩ rfl) .nil))
abbrev z31r2 (l : List Int) (v9 : Int) : Prop := RowLd P 3 (encL cInt l) (0 + v9.toNat * 1) (I ((at_ 0 l v9)))
abbrev z31r3 (holds_0 : Int) : Prop := MemAt (Ren.emb [(10, 11, 0)]) [I (holds_0)] 0 [I (holds_0)] ∧ True
abbrev z31r4 (l : List Int) (holds_0 v9 : Int) : Prop := VR (Ren.emb [(10, 11, 0)]) (.bool (growth_yearsAreDefined_1 (at_ 0 l v9) holds_0)) (.bool (growth_yearsAreDefined_1 (at_ 0 l v9) holds_0))
noncomputable abbrev z31i5 (l : List Int) (holds_0 v9 : Int) : Hint := (hB (hM (.bool (growth_yearsAreDefined_1 (at_ 0 l v9) holds_0)) (.bool (growth_yearsAreDefined_1 (at_ 0 l v9) holds_0)) (A_growth_yearsAreDefined_1 (at_ 0 l v9)) (K_growth_yearsAreDefined_1 holds_0) [(10, 11, 0)]) false)
abbrev A_growth_all (l : List Int) (q10 : Nat) : List Value := [.slice (some ⟨10, 0, none⟩) (l.length) (q10), .func (.func 118) #[] #[.pointer (some ⟨11, 0, none⟩)]]
abbrev K_growth_all (l : List Int) (holds_0 : Int) : List (Nat × List Value) := [(10, encL cInt l), (11, [I (holds_0)])]
noncomputable def growth_all_L (fu : Nat) (l : List Int) (holds_0 : Int) : Nat → (Bool → Int → Option Bool)
  | 0 => (fun _ _ => none)
  | fk + 1 => (fun v4 v9 => bif decide (v9 < ((l.length : Nat) : Int)) then (bif decide (0 ≤ v9 ∧ v9 < ((l.length : Nat) : Int)) then (bif growth_yearsAreDefined_1 (at_ 0 l v9) holds_0 then growth_all_L fu l holds_0 fk v4 (W (v9 + 1))
        else some false) else none)
      else some true)
theorem growth_all_L_s0 (fu : Nat) (l : List Int) (holds_0 : Int) (fk : Nat) (v4 : Bool) (v9 : Int) : growth_all_L fu l holds_0 (fk + 1) v4 v9 = (bif decide (v9 < ((l.length : Nat) : Int)) then (bif decide (0 ≤ v9 ∧ v9 < ((l.length : Nat) : Int)) then (bif growth_yearsAreDefined_1 (at_ 0 l v9) holds_0 then growth_all_L fu l holds_0 fk v4 (W (v9 + 1))
        else some false) else none)
      else some true) := rfl
noncomputable def growth_all (fu : Nat) (l : List Int) (holds_0 : Int) : Option Bool :=
  growth_all_L fu l holds_0 fu false 0
theorem growth_all_L_fs (fu : Nat) (l : List Int) (holds_0 : Int) (q10 : Nat) : ∀ fk, (∀ (v4 : Bool) (v9 : Int) (r : Bool), growth_all_L fu l holds_0 fk v4 v9 = some r → FSat P GG Tryd.f117 (.bool (r)) (ids (looses (K_growth_all l holds_0))) 18 [.lp (cA (bodyOf Tryd.f117) [1, 0, 1, 0, 0]), .blk 0, .code (cA (bodyOf Tryd.f117) [1, 1])] (tOf 18 [(1, .func (.func 118) #[] #[.pointer (some ⟨11, 0, none⟩)]), (4, .bool (v4)), (7, .slice (some ⟨10, 0, none⟩) (l.length) (q10)), (8, I (((l.length : Nat) : Int))), (9, I (v9))]) (mOf 100 [(0, .rom [I (1), I (2), I (3)] .glob), (10, .rom (encL cInt l) .loose), (11, .rom ([I (holds_0)]) .loose)])) := by
  intro fk
  induction fk with
  | zero => exact fun _ _ r hh => by cases hh
  | succ fk ih =>
    · intro v4 v9 r hh
      rw [growth_all_L_s0] at hh
      rcases bb (decide (v9 < ((l.length : Nat) : Int))) with h1 | h1
      ·rw [h1, cT] at hh
       rcases bb (decide (0 ≤ v9 ∧ v9 < ((l.length : Nat) : Int))) with h2 | h2
       rotate_left
       ·rw [h2, cF] at hh; cases hh
       ·rw [h2, cT] at hh
        rcases bb (growth_yearsAreDefined_1 (at_ 0 l v9) holds_0) with h3 | h3
        ·rw [h3, cT] at hh
         have nx := ih v4 (W (v9 + 1)) r hh
         refine FSat.s pfT 22 [hT, hX, (hL (I ((at_ 0 l v9)))), hE, hE, hE, (z31i0 l holds_0 v9), hE, hE, hE] [.go, .st [1, 4, 7, 8, 9] [0, 10, 11]] (pc h1 <| pt (0 ≤ v9 ∧ v9 < ((l.length : Nat) : Int)) (of_decide_eq_true h2) <| pt (z31r2 l v9) (RowLd.part cInt_len _ rfl rfl _ _ (of_decide_eq_true h2) 0 _ rfl (by decide)) <| pc (growth_yearsAreDefined_1_fc (at_ 0 l v9) holds_0) <| pc (z31p1 l v9) <| pt (z31r3 holds_0) (⟨MemAt.of (.cons _ _ _ _ (VR.of_pf rfl) .nil), trivial⟩) <| pt (z31r4 l holds_0 v9) (selfB_self 9 _ rfl _) <| pc h3 <| pn) (by kernel_rfl) 100 (by kernel_rfl) ?_ nx
         exact ⟨PinL.lit (by kernel_rfl), PinL.pf (encL_pf cInt_pf _), PinL.lit (by kernel_rfl), trivial⟩
        ·rw [h3, cF] at hh
         rw [← sI hh]
         exact FSat.d pfT 21 [hT, hX, (hL (I ((at_ 0 l v9)))), hE, hE, hE, (z31i5 l holds_0 v9), hE, hE] [.go] (pc h1 <| pt (0 ≤ v9 ∧ v9 < ((l.length : Nat) : Int)) (of_decide_eq_true h2) <| pt (z31r2 l v9) (RowLd.part cInt_len _ rfl rfl _ _ (of_decide_eq_true h2) 0 _ rfl (by decide)) <| pc (growth_yearsAreDefined_1_fc (at_ 0 l v9) holds_0) <| pc (z31p1 l v9) <| pt (z31r3 holds_0) (⟨MemAt.of (.cons _ _ _ _ (VR.of_pf rfl) .nil), trivial⟩) <| pt (z31r4 l holds_0 v9) (selfB_self 9 _ rfl _) <| pc h3 <| pn) (by kernel_rfl) (by kernel_rfl)
      ·rw [h1, cF] at hh
       rw [← sI hh]
       exact FSat.d pfT 14 [hF, hE] [.go] (pc h1 <| pn) (by kernel_rfl) (by kernel_rfl)
theorem growth_all_fc (fu : Nat) (l : List Int) (holds_0 : Int) (q10 : Nat) (r : Bool) (hh : growth_all fu l holds_0 = some r) : FC P GG 117 (A_growth_all l q10) (K_growth_all l holds_0) (.bool (r)) := by
  refine FC.of_fsat 18 100 Tryd.func117 (by kernel_rfl) (by kernel_rfl) (by kernel_rfl) ⟨PinL.pf (encL_pf cInt_pf _), PinL.lit (by kernel_rfl), trivial⟩ ?_
  unfold growth_all at hh
  have nx := growth_all_L_fs fu l holds_0 q10 fu false 0 r hh
  refine FSat.s pfT 13 (hR 4 []) [.st [1, 4, 7, 8, 9] [0, 10, 11]] (pn) (by kernel_rfl) 100 (by kernel_rfl) ?_ nx
  exact ⟨PinL.lit (by kernel_rfl), PinL.pf (encL_pf cInt_pf _), PinL.lit (by kernel_rfl), trivial⟩

/- greenhew/growth.yearsAreDefined -/
noncomputable abbrev z30i0 (table : List Int) : Hint := (hB (hC (.bool (growth_within ((table.length : Nat) : Int) 1 60))) true)
noncomputable abbrev z30i1 (table : List Int) (most : Int) (q10 : Nat) (x1 : Bool) : Hint := (hM (.bool (x1)) (.bool (x1)) (A_growth_all table q10) (K_growth_all table most) [(10, 10, 0), (11, 100, 0)])
theorem z30p2 (table : List Int) (q10 : Nat) : VRs (Ren.emb [(10, 10, 0), (11, 100, 0)]) (A_growth_all table q10) [.slice (some ⟨10, 0, none⟩) (table.length) (q10), .func (.func 118) #[] #[.pointer (some ⟨100, 0, none⟩)]] := (.cons _ _ _ _ (.slc 10 0 _ _ _ ⟨10, 0, 0, 0⟩ rfl (.inl rfl)) (.cons _ _ _ _ (.func _ _ _ _ _ (fun _ h => by cases h) .nil (.cons _ _ _ _ (.ptr 11 0 ⟨100, 0, 0, 0⟩ rfl) .nil)) .nil))
theorem z30p3 (table : List Int) (most : Int) : MemAt (Ren.emb [(10, 10, 0), (11, 100, 0)]) (encL cInt table) 0 (encL cInt table) ∧ MemAt (Ren.emb [(10, 10, 0), (11, 100, 0)]) [I (most)] 0 [I (most)] ∧ True := ⟨MemAt.same _ (encL_pf cInt_pf _), MemAt.of (.cons _ _ _ _ (VR.of_pf rfl) .nil), trivial⟩
abbrev z30r4 (x1 : Bool) : Prop := VR (Ren.emb [(10, 10, 0), (11, 100, 0)]) (.bool (x1)) (.bool (x1))
noncomputable abbrev z30i5 (table : List Int) : Hint := (hB (hC (.bool (growth_within ((table.length : Nat) : Int) 1 60))) false)
abbrev A_growth_yearsAreDefined (table : List Int) (most : Int) (q10 : Nat) : List Value := [.slice (some ⟨10, 0, none⟩) (table.length) (q10), I (most)]
abbrev K_growth_yearsAreDefined (table : List Int) : List (Nat × List Value) := [(10, encL cInt table)]
noncomputable def growth_yearsAreDefined (fu : Nat) (table : List Int) (most : Int) : Option Bool :=
  bif growth_within ((table.length : Nat) : Int) 1 60 then (Option.bind (growth_all fu table most) fun x1 =>
    some x1)
  else some false
theorem growth_yearsAreDefined_fc (fu : Nat) (table : List Int) (most : Int) (q10 : Nat) (r : Bool) (hh : growth_yearsAreDefined fu table most = some r) : FC P GG 93 (A_growth_yearsAreDefined table most q10) (K_growth_yearsAreDefined table) (.bool (r)) := by
  refine FC.of_fsat 13 100 Tryd.func93 (by kernel_rfl) (by kernel_rfl) (by kernel_rfl) ⟨PinL.pf (encL_pf cInt_pf _), trivial⟩ ?_
  unfold growth_yearsAreDefined at hh
  rcases bb (growth_within ((table.length : Nat) : Int) 1 60) with h1 | h1
  ·rw [h1, cT] at hh
   cases h2 : growth_all fu table most with
   | none => rw [h2, oN] at hh; cases hh
   | some x1 =>
    rw [h2, oS] at hh
    rw [← sI hh]
    exact FSat.d pfT 10 (hR 4 [(z30i0 table), hE, hE, hE, (z30i1 table most q10 x1), hE, hE]) [] (pc (growth_within_fc ((table.length : Nat) : Int) 1 60) <| pc h1 <| pc (growth_all_fc fu table most q10 x1 h2) <| pc (z30p2 table q10) <| pc (z30p3 table most) <| pt (z30r4 x1) (selfB_self 9 _ rfl _) <| pn) (by kernel_rfl) (by kernel_rfl)
  ·rw [h1, cF] at hh
   rw [← sI hh]
   exact FSat.d pfT 10 (hR 4 [(z30i5 table), hE, hE, hE]) [] (pc (growth_within_fc ((table.length : Nat) : Int) 1 60) <| pc h1 <| pn) (by kernel_rfl) (by kernel_rfl)

/- greenhew/growth.ladderIsDefined -/
noncomputable abbrev z33i0 (l : List XRung) (v10 : Int) : Hint := (hL (.agg #[I ((at_ zXRung l v10).Height), I ((at_ zXRung l v10).Shoots)]))
noncomputable abbrev z33i1 (l : List XRung) (v10 : Int) : Hint := (hB (hC (.bool (growth_within ((at_ zXRung l v10).Height) 1 40000))) true)
noncomputable abbrev z33i2 (l : List XRung) (v10 : Int) : Hint := (hB (hC (.bool (growth_within ((at_ zXRung l v10).Shoots) 0 300))) true)
abbrev z33r3 (l : List XRung) (v10 : Int) : Prop := RowLd P 119 (encL cXRung l) (0 + v10.toNat * 2) (.agg #[I ((at_ zXRung l v10).Height), I ((at_ zXRung l v10).Shoots)])
abbrev z33r4 (l : List XRung) (v10 : Int) : Prop := 0 ≤ (W (v10 - 1)) ∧ (W (v10 - 1)) < ((l.length : Nat) : Int)
abbrev z33r5 (l : List XRung) (v10 : Int) : Prop := RowLd P 3 (encL cXRung l) (0 + (W (v10 - 1)).toNat * 2) (I ((at_ zXRung l (W (v10 - 1))).Height))
abbrev z33r6 (l : List XRung) (v10 : Int) : Prop := RowLd P 3 (encL cXRung l) (0 + (W (v10 - 1)).toNat * 2 + 1) (I ((at_ zXRung l (W (v10 - 1))).Shoots))
noncomputable abbrev z33i7 (l : List XRung) (v10 : Int) : Hint := (hB (hC (.bool (growth_within ((at_ zXRung l v10).Shoots) 0 300))) false)
noncomputable abbrev z33i8 (l : List XRung) (v10 : Int) : Hint := (hB (hC (.bool (growth_within ((at_ zXRung l v10).Height) 1 40000))) false)
abbrev A_growth_ladderIsDefined (l : List XRung) (q10 : Nat) : List Value := [.slice (some ⟨10, 0, none⟩) (l.length) (q10)]
abbrev K_growth_ladderIsDefined (l : List XRung) : List (Nat × List Value) := [(10, encL cXRung l)]
noncomputable def growth_ladderIsDefined_L (fu : Nat) (l : List XRung) : Nat → (Bool → Int → Option Bool)
  | 0 => (fun _ _ => none)
  | fk + 1 => (fun v2 v10 => bif decide (v10 < ((l.length : Nat) : Int)) then (bif decide (0 ≤ v10 ∧ v10 < ((l.length : Nat) : Int)) then (bif growth_within ((at_ zXRung l v10).Height) 1 40000 then (bif growth_within ((at_ zXRung l v10).Shoots) 0 300 then (bif decide (v10 > 0) then (bif decide (0 ≤ (W (v10 - 1)) ∧ (W (v10 - 1)) < ((l.length : Nat) : Int)) then (bif decide (((at_ zXRung l v10).Height) ≤ ((at_ zXRung l (W (v10 - 1))).Height)) then some false
              else (bif decide (((at_ zXRung l v10).Shoots) ≥ ((at_ zXRung l (W (v10 - 1))).Shoots)) then some false
                else growth_ladderIsDefined_L fu l fk v2 (W (v10 + 1)))) else none)
            else growth_ladderIsDefined_L fu l fk v2 (W (v10 + 1)))
          else some false)
        else some false) else none)
      else some true)
theorem growth_ladderIsDefined_L_s0 (fu : Nat) (l : List XRung) (fk : Nat) (v2 : Bool) (v10 : Int) : growth_ladderIsDefined_L fu l (fk + 1) v2 v10 = (bif decide (v10 < ((l.length : Nat) : Int)) then (bif decide (0 ≤ v10 ∧ v10 < ((l.length : Nat) : Int)) then (bif growth_within ((at_ zXRung l v10).Height) 1 40000 then (bif growth_within ((at_ zXRung l v10).Shoots) 0 300 then (bif decide (v10 > 0) then (bif decide (0 ≤ (W (v10 - 1)) ∧ (W (v10 - 1)) < ((l.length : Nat) : Int)) then (bif decide (((at_ zXRung l v10).Height) ≤ ((at_ zXRung l (W (v10 - 1))).Height)) then some false
              else (bif decide (((at_ zXRung l v10).Shoots) ≥ ((at_ zXRung l (W (v10 - 1))).Shoots)) then some false
                else growth_ladderIsDefined_L fu l fk v2 (W (v10 + 1)))) else none)
            else growth_ladderIsDefined_L fu l fk v2 (W (v10 + 1)))
          else some false)
        else some false) else none)
      else some true) := rfl
noncomputable def growth_ladderIsDefined (fu : Nat) (l : List XRung) : Option Bool :=
  bif decide (((l.length : Nat) : Int) > 20) then some false
  else growth_ladderIsDefined_L fu l fu false 0
theorem growth_ladderIsDefined_L_fs (fu : Nat) (l : List XRung) (q10 : Nat) : ∀ fk, (∀ (v2 : Bool) (v10 : Int) (r : Bool), growth_ladderIsDefined_L fu l fk v2 v10 = some r → FSat P GG Tryd.f95 (.bool (r)) (ids (looses (K_growth_ladderIsDefined l))) 50 [.lp (cA (bodyOf Tryd.f95) [1, 1, 0, 1, 0, 0]), .blk 0, .code (cA (bodyOf Tryd.f95) [1, 1, 1])] (tOf 50 [(0, .slice (some ⟨10, 0, none⟩) (l.length) (q10)), (2, .bool (v2)), (8, .slice (some ⟨10, 0, none⟩) (l.length) (q10)), (9, I (((l.length : Nat) : Int))), (10, I (v10))]) (mOf 100 [(0, .rom [I (1), I (2), I (3)] .glob), (10, .rom (encL cXRung l) .loose)])) := by
  intro fk
  induction fk with
  | zero => exact fun _ _ r hh => by cases hh
  | succ fk ih =>
    · intro v2 v10 r hh
      rw [growth_ladderIsDefined_L_s0] at hh
      rcases bb (decide (v10 < ((l.length : Nat) : Int))) with h1 | h1
      ·rw [h1, cT] at hh
       rcases bb (decide (0 ≤ v10 ∧ v10 < ((l.length : Nat) : Int))) with h2 | h2
       rotate_left
       ·rw [h2, cF] at hh; cases hh
       ·rw [h2, cT] at hh
        rcases bb (growth_within ((at_ zXRung l v10).Height) 1 40000) with h3 | h3
        ·rw [h3, cT] at hh
         rcases bb (growth_within ((at_ zXRung l v10).Shoots) 0 300) with h4 | h4
         ·rw [h4, cT] at hh
          rcases bb (decide (v10 > 0)) with h5 | h5
          ·rw [h5, cT] at hh
           rcases bb (decide (0 ≤ (W (v10 - 1)) ∧ (W (v10 - 1)) < ((l.length : Nat) : Int))) with h6 | h6
           rotate_left
           ·rw [h6, cF] at hh; cases hh
           ·rw [h6, cT] at hh
            rcases bb (decide (((at_ zXRung l v10).Height) ≤ ((at_ zXRung l (W (v10 - 1))).Height))) with h7 | h7
            ·rw [h7, cT] at hh
             rw [← sI hh]
             exact FSat.d pfT 26 (hT :: hE :: hX :: (z33i0 l v10) :: (hR 5 ((z33i1 l v10) :: (hR 4 ((z33i2 l v10) :: hE :: hE :: hE :: hT :: (hR 6 (hX :: hE :: (hL (I ((at_ zXRung l (W (v10 - 1))).Height))) :: hT :: (hR 4 [])))))))) [.go] (pc h1 <| pt (0 ≤ v10 ∧ v10 < ((l.length : Nat) : Int)) (of_decide_eq_true h2) <| pt (z33r3 l v10) (RowLd.elem cXRung_len _ (.inl ⟨_, rfl⟩) rfl rfl _ _ (of_decide_eq_true h2)) <| pc (growth_within_fc ((at_ zXRung l v10).Height) 1 40000) <| pc h3 <| pc (growth_within_fc ((at_ zXRung l v10).Shoots) 0 300) <| pc h4 <| pc h5 <| pt (z33r4 l v10) (of_decide_eq_true h6) <| pt (z33r5 l v10) (RowLd.part cXRung_len _ rfl rfl _ _ (of_decide_eq_true h6) 0 _ rfl (by decide)) <| pc h7 <| pn) (by kernel_rfl) (by kernel_rfl)
            ·rw [h7, cF] at hh
             rcases bb (decide (((at_ zXRung l v10).Shoots) ≥ ((at_ zXRung l (W (v10 - 1))).Shoots))) with h8 | h8
             ·rw [h8, cT] at hh
              rw [← sI hh]
              exact FSat.d pfT 26 (hT :: hE :: hX :: (z33i0 l v10) :: (hR 5 ((z33i1 l v10) :: (hR 4 ((z33i2 l v10) :: hE :: hE :: hE :: hT :: (hR 6 (hX :: hE :: (hL (I ((at_ zXRung l (W (v10 - 1))).Height))) :: hF :: (hR 6 [hX, hE, (hL (I ((at_ zXRung l (W (v10 - 1))).Shoots))), hT, hE, hE, hE])))))))) [.go] (pc h1 <| pt (0 ≤ v10 ∧ v10 < ((l.length : Nat) : Int)) (of_decide_eq_true h2) <| pt (z33r3 l v10) (RowLd.elem cXRung_len _ (.inl ⟨_, rfl⟩) rfl rfl _ _ (of_decide_eq_true h2)) <| pc (growth_within_fc ((at_ zXRung l v10).Height) 1 40000) <| pc h3 <| pc (growth_within_fc ((at_ zXRung l v10).Shoots) 0 300) <| pc h4 <| pc h5 <| pt (z33r4 l v10) (of_decide_eq_true h6) <| pt (z33r5 l v10) (RowLd.part cXRung_len _ rfl rfl _ _ (of_decide_eq_true h6) 0 _ rfl (by decide)) <| pc h7 <| pt (z33r4 l v10) (of_decide_eq_true h6) <| pt (z33r6 l v10) (RowLd.part cXRung_len _ rfl rfl _ _ (of_decide_eq_true h6) 1 _ rfl (by decide)) <| pc h8 <| pn) (by kernel_rfl) (by kernel_rfl)
             ·rw [h8, cF] at hh
              have nx := ih v2 (W (v10 + 1)) r hh
              refine FSat.s pfT 27 (hT :: hE :: hX :: (z33i0 l v10) :: (hR 5 ((z33i1 l v10) :: (hR 4 ((z33i2 l v10) :: hE :: hE :: hE :: hT :: (hR 6 (hX :: hE :: (hL (I ((at_ zXRung l (W (v10 - 1))).Height))) :: hF :: (hR 6 (hX :: hE :: (hL (I ((at_ zXRung l (W (v10 - 1))).Shoots))) :: hF :: (hR 4 [])))))))))) [.go, .st [0, 2, 8, 9, 10] [0, 10]] (pc h1 <| pt (0 ≤ v10 ∧ v10 < ((l.length : Nat) : Int)) (of_decide_eq_true h2) <| pt (z33r3 l v10) (RowLd.elem cXRung_len _ (.inl ⟨_, rfl⟩) rfl rfl _ _ (of_decide_eq_true h2)) <| pc (growth_within_fc ((at_ zXRung l v10).Height) 1 40000) <| pc h3 <| pc (growth_within_fc ((at_ zXRung l v10).Shoots) 0 300) <| pc h4 <| pc h5 <| pt (z33r4 l v10) (of_decide_eq_true h6) <| pt (z33r5 l v10) (RowLd.part cXRung_len _ rfl rfl _ _ (of_decide_eq_true h6) 0 _ rfl (by decide)) <| pc h7 <| pt (z33r4 l v10) (of_decide_eq_true h6) <| pt (z33r6 l v10) (RowLd.part cXRung_len _ rfl rfl _ _ (of_decide_eq_true h6) 1 _ rfl (by decide)) <| pc h8 <| pn) (by kernel_rfl) 100 (by kernel_rfl) ?_ nx
              exact ⟨PinL.lit (by kernel_rfl), PinL.pf (encL_pf cXRung_pf _), trivial⟩
          ·rw [h5, cF] at hh
           have nx := ih v2 (W (v10 + 1)) r hh
           refine FSat.s pfT 27 (hT :: hE :: hX :: (z33i0 l v10) :: (hR 5 ((z33i1 l v10) :: (hR 4 ((z33i2 l v10) :: hE :: hE :: hE :: hF :: (hR 4 [])))))) [.go, .st [0, 2, 8, 9, 10] [0, 10]] (pc h1 <| pt (0 ≤ v10 ∧ v10 < ((l.length : Nat) : Int)) (of_decide_eq_true h2) <| pt (z33r3 l v10) (RowLd.elem cXRung_len _ (.inl ⟨_, rfl⟩) rfl rfl _ _ (of_decide_eq_true h2)) <| pc (growth_within_fc ((at_ zXRung l v10).Height) 1 40000) <| pc h3 <| pc (growth_within_fc ((at_ zXRung l v10).Shoots) 0 300) <| pc h4 <| pc h5 <| pn) (by kernel_rfl) 100 (by kernel_rfl) ?_ nx
           exact ⟨PinL.lit (by kernel_rfl), PinL.pf (encL_pf cXRung_pf _), trivial⟩
         ·rw [h4, cF] at hh
          rw [← sI hh]
          exact FSat.d pfT 22 (hT :: hE :: hX :: (z33i0 l v10) :: (hR 5 ((z33i1 l v10) :: (hR 4 [(z33i7 l v10), hE, hE, hE])))) [.go] (pc h1 <| pt (0 ≤ v10 ∧ v10 < ((l.length : Nat) : Int)) (of_decide_eq_true h2) <| pt (z33r3 l v10) (RowLd.elem cXRung_len _ (.inl ⟨_, rfl⟩) rfl rfl _ _ (of_decide_eq_true h2)) <| pc (growth_within_fc ((at_ zXRung l v10).Height) 1 40000) <| pc h3 <| pc (growth_within_fc ((at_ zXRung l v10).Shoots) 0 300) <| pc h4 <| pn) (by kernel_rfl) (by kernel_rfl)
        ·rw [h3, cF] at hh
         rw [← sI hh]
         exact FSat.d pfT 22 (hT :: hE :: hX :: (z33i0 l v10) :: (hR 5 ((z33i8 l v10) :: (hR 4 [])))) [.go] (pc h1 <| pt (0 ≤ v10 ∧ v10 < ((l.length : Nat) : Int)) (of_decide_eq_true h2) <| pt (z33r3 l v10) (RowLd.elem cXRung_len _ (.inl ⟨_, rfl⟩) rfl rfl _ _ (of_decide_eq_true h2)) <| pc (growth_within_fc ((at_ zXRung l v10).Height) 1 40000) <| pc h3 <| pn) (by kernel_rfl) (by kernel_rfl)
      ·rw [h1, cF] at hh
       rw [← sI hh]
       exact FSat.d pfT 14 [hF, hE] [.go] (pc h1 <| pn) (by kernel_rfl) (by kernel_rfl)
theorem growth_ladderIsDefined_fc (fu : Nat) (l : List XRung) (q10 : Nat) (r : Bool) (hh : growth_ladderIsDefined fu l = some r) : FC P GG 95 (A_growth_ladderIsDefined l q10) (K_growth_ladderIsDefined l) (.bool (r)) := by
  refine FC.of_fsat 50 100 Tryd.func95 (by kernel_rfl) (by kernel_rfl) (by kernel_rfl) ⟨PinL.pf (encL_pf cXRung_pf _), trivial⟩ ?_
  unfold growth_ladderIsDefined at hh
  rcases bb (decide (((l.length : Nat) : Int) > 20)) with h1 | h1
  ·rw [h1, cT] at hh
   rw [← sI hh]
   exact FSat.d pfT 14 [hE, hE, hE, hT, hE] [] (pc h1 <| pn) (by kernel_rfl) (by kernel_rfl)
  ·rw [h1, cF] at hh
   have nx := growth_ladderIsDefined_L_fs fu l q10 fu false 0 r hh
   refine FSat.s pfT 18 [hE, hE, hE, hF, hE, hE, hE] [.st [0, 2, 8, 9, 10] [0, 10]] (pc h1 <| pn) (by kernel_rfl) 100 (by kernel_rfl) ?_ nx
   exact ⟨PinL.lit (by kernel_rfl), PinL.pf (encL_pf cXRung_pf _), trivial⟩

/- greenhew/growth.isPart -/
abbrev A_growth_isPart (s : XSpan) (most : Int) : List Value := [.agg #[I (s.Low), I (s.High)], I (most)]
noncomputable def growth_isPart (s : XSpan) (most : Int) : Bool :=
  bif decide (s.Low ≥ 0) then (bif decide (s.Low ≤ s.High) then decide (s.High ≤ most)
    else false)
  else false
theorem growth_isPart_fc (s : XSpan) (most : Int) : FC P GG 107 (A_growth_isPart s most) [] (.bool (growth_isPart s most)) := by
  refine FC.of_fsat 21 100 Tryd.func107 (by kernel_rfl) (by kernel_rfl) (by kernel_rfl) trivial ?_
  rcases bb (decide (s.Low ≥ 0)) with h1 | h1
  ·rcases bb (decide (s.Low ≤ s.High)) with h2 | h2
   ·have e : growth_isPart s most = decide (s.High ≤ most) := by unfold growth_isPart; rw [h1, cT, h2, cT]; first | done | rfl
    rw [e]
    exact FSat.d pfT 10 (hR 4 (hT :: (hR 5 (hT :: (hR 8 []))))) [] (pc h1 <| pc h2 <| pn) (by kernel_rfl) (by kernel_rfl)
   ·have e : growth_isPart s most = false := by unfold growth_isPart; rw [h1, cT, h2, cF]; first | done | rfl
    rw [e]
    exact FSat.d pfT 10 (hR 4 (hT :: (hR 5 (hF :: (hR 4 []))))) [] (pc h1 <| pc h2 <| pn) (by kernel_rfl) (by kernel_rfl)
  ·have e : growth_isPart s most = false := by unfold growth_isPart; rw [h1, cF]; first | done | rfl
   rw [e]
   exact FSat.d pfT 10 (hR 4 (hF :: (hR 5 []))) [] (pc h1 <| pn) (by kernel_rfl) (by kernel_rfl)

/- greenhew/growth.sproutsAreDefined$1 -/
abbrev A_growth_sproutsAreDefined_1 (s : XSpan) : List Value := [.agg #[I (s.Low), I (s.High)]]
noncomputable def growth_sproutsAreDefined_1 (s : XSpan) : Bool :=
  growth_isPart s 300
theorem growth_sproutsAreDefined_1_fc (s : XSpan) : FC P GG 120 (A_growth_sproutsAreDefined_1 s) [] (.bool (growth_sproutsAreDefined_1 s)) := by
  refine FC.of_fsat 5 100 Tryd.func120 (by kernel_rfl) (by kernel_rfl) (by kernel_rfl) trivial ?_
  have e : growth_sproutsAreDefined_1 s = growth_isPart s 300 := by unfold growth_sproutsAreDefined_1; rfl
  rw [e]
  exact FSat.d pfT 10 [hE, hE, hE, (hC (.bool (growth_isPart s 300))), hE] [] (pc (growth_isPart_fc s 300) <| pn) (by kernel_rfl) (by kernel_rfl)

/- greenhew/growth.all[greenhew/api.Span] -/
noncomputable abbrev z35i0 (l : List XSpan) (v9 : Int) : Hint := (hL (.agg #[I ((at_ zXSpan l v9).Low), I ((at_ zXSpan l v9).High)]))
noncomputable abbrev z35i1 (l : List XSpan) (v9 : Int) : Hint := (hB (hC (.bool (growth_sproutsAreDefined_1 (at_ zXSpan l v9)))) true)
abbrev z35r2 (l : List XSpan) (v9 : Int) : Prop := RowLd P 56 (encL cXSpan l) (0 + v9.toNat * 2) (.agg #[I ((at_ zXSpan l v9).Low), I ((at_ zXSpan l v9).High)])
noncomputable abbrev z35i3 (l : List XSpan) (v9 : Int) : Hint := (hB (hC (.bool (growth_sproutsAreDefined_1 (at_ zXSpan l v9)))) false)
abbrev A_api_Span (l : List XSpan) (q10 : Nat) : List Value := [.slice (some ⟨10, 0, none⟩) (l.length) (q10), .func (.func 120) #[] #[]]
abbrev K_api_Span (l : List XSpan) : List (Nat × List Value) := [(10, encL cXSpan l)]
noncomputable def api_Span_L (fu : Nat) (l : List XSpan) : Nat → (Bool → Int → Option Bool)
  | 0 => (fun _ _ => none)
  | fk + 1 => (fun v4 v9 => bif decide (v9 < ((l.length : Nat) : Int)) then (bif decide (0 ≤ v9 ∧ v9 < ((l.length : Nat) : Int)) then (bif growth_sproutsAreDefined_1 (at_ zXSpan l v9) then api_Span_L fu l fk v4 (W (v9 + 1))
        else some false) else none)
      else some true)
theorem api_Span_L_s0 (fu : Nat) (l : List XSpan) (fk : Nat) (v4 : Bool) (v9 : Int) : api_Span_L fu l (fk + 1) v4 v9 = (bif decide (v9 < ((l.length : Nat) : Int)) then (bif decide (0 ≤ v9 ∧ v9 < ((l.length : Nat) : Int)) then (bif growth_sproutsAreDefined_1 (at_ zXSpan l v9) then api_Span_L fu l fk v4 (W (v9 + 1))
        else some false) else none)
      else some true) := rfl
noncomputable def api_Span (fu : Nat) (l : List XSpan) : Option Bool :=
  api_Span_L fu l fu false 0
theorem api_Span_L_fs (fu : Nat) (l : List XSpan) (q10 : Nat) : ∀ fk, (∀ (v4 : Bool) (v9 : Int) (r : Bool), api_Span_L fu l fk v4 v9 = some r → FSat P GG Tryd.f119 (.bool (r)) (ids (looses (K_api_Span l))) 18 [.lp (cA (bodyOf Tryd.f119) [1, 0, 1, 0, 0]), .blk 0, .code (cA (bodyOf Tryd.f119) [1, 1])] (tOf 18 [(1, .func (.func 120) #[] #[]), (4, .bool (v4)), (7, .slice (some ⟨10, 0, none⟩) (l.length) (q10)), (8, I (((l.length : Nat) : Int))), (9, I (v9))]) (mOf 100 [(0, .rom [I (1), I (2), I (3)] .glob), (10, .rom (encL cXSpan l) .loose)])) := by
  intro fk
  induction fk with
  | zero => exact fun _ _ r hh => by cases hh
  | succ fk ih =>
    · intro v4 v9 r hh
      rw [api_Span_L_s0] at hh
      rcases bb (decide (v9 < ((l.length : Nat) : Int))) with h1 | h1
      ·rw [h1, cT] at hh
       rcases bb (decide (0 ≤ v9 ∧ v9 < ((l.length : Nat) : Int))) with h2 | h2
       rotate_left
       ·rw [h2, cF] at hh; cases hh
       ·rw [h2, cT] at hh
        rcases bb (growth_sproutsAreDefined_1 (at_ zXSpan l v9)) with h3 | h3
        ·rw [h3, cT] at hh
         have nx := ih v4 (W (v9 + 1)) r hh
         refine FSat.s pfT 22 (hT :: hX :: (z35i0 l v9) :: (hR 4 [(z35i1 l v9), hE, hE, hE])) [.go, .st [1, 4, 7, 8, 9] [0, 10]] (pc h1 <| pt (0 ≤ v9 ∧ v9 < ((l.length : Nat) : Int)) (of_decide_eq_true h2) <| pt (z35r2 l v9) (RowLd.elem cXSpan_len _ (.inl ⟨_, rfl⟩) rfl rfl _ _ (of_decide_eq_true h2)) <| pc (growth_sproutsAreDefined_1_fc (at_ zXSpan l v9)) <| pc h3 <| pn) (by kernel_rfl) 100 (by kernel_rfl) ?_ nx
         exact ⟨PinL.lit (by kernel_rfl), PinL.pf (encL_pf cXSpan_pf _), trivial⟩
        ·rw [h3, cF] at hh
         rw [← sI hh]
         exact FSat.d pfT 21 (hT :: hX :: (z35i0 l v9) :: (hR 4 [(z35i3 l v9), hE, hE])) [.go] (pc h1 <| pt (0 ≤ v9 ∧ v9 < ((l.length : Nat) : Int)) (of_decide_eq_true h2) <| pt (z35r2 l v9) (RowLd.elem cXSpan_len _ (.inl ⟨_, rfl⟩) rfl rfl _ _ (of_decide_eq_true h2)) <| pc (growth_sproutsAreDefined_1_fc (at_ zXSpan l v9)) <| pc h3 <| pn) (by kernel_rfl) (by kernel_rfl)
      ·rw [h1, cF] at hh
       rw [← sI hh]
       exact FSat.d pfT 14 [hF, hE] [.go] (pc h1 <| pn) (by kernel_rfl) (by kernel_rfl)
theorem api_Span_fc (fu : Nat) (l : List XSpan) (q10 : Nat) (r : Bool) (hh : api_Span fu l = some r) : FC P GG 119 (A_api_Span l q10) (K_api_Span l) (.bool (r)) := by
  refine FC.of_fsat 18 100 Tryd.func119 (by kernel_rfl) (by kernel_rfl) (by kernel_rfl) ⟨PinL.pf (encL_pf cXSpan_pf _), trivial⟩ ?_
  unfold api_Span at hh
  have nx := api_Span_L_fs fu l q10 fu false 0 r hh
  refine FSat.s pfT 13 (hR 4 []) [.st [1, 4, 7, 8, 9] [0, 10]] (pn) (by kernel_rfl) 100 (by kernel_rfl) ?_ nx
  exact ⟨PinL.lit (by kernel_rfl), PinL.pf (encL_pf cXSpan_pf _), trivial⟩

/- greenhew/growth.sproutsAreDefined -/
noncomputable abbrev z34i0 (l : List XSpan) : Hint := (hB (hC (.bool (growth_within ((l.length : Nat) : Int) 1 60))) true)
noncomputable abbrev z34i1 (l : List XSpan) (q10 : Nat) (x1 : Bool) : Hint := (hM (.bool (x1)) (.bool (x1)) (A_api_Span l q10) (K_api_Span l) [(10, 10, 0)])
theorem z34p2 (l : List XSpan) (q10 : Nat) : VRs (Ren.emb [(10, 10, 0)]) (A_api_Span l q10) [.slice (some ⟨10, 0, none⟩) (l.length) (q10), .func (.func 120) #[] #[]] := (.cons _ _ _ _ (.slc 10 0 _ _ _ ⟨10, 0, 0, 0⟩ rfl (.inl rfl)) (.cons _ _ _ _ (.func _ _ _ _ _ (fun _ h => by cases h) .nil .nil) .nil))
abbrev z34r3 (l : List XSpan) : Prop := MemAt (Ren.emb [(10, 10, 0)]) (encL cXSpan l) 0 (encL cXSpan l) ∧ True
noncomputable abbrev z34i4 (l : List XSpan) : Hint := (hB (hC (.bool (growth_within ((l.length : Nat) : Int) 1 60))) false)
abbrev A_growth_sproutsAreDefined (l : List XSpan) (q10 : Nat) : List Value := [.slice (some ⟨10, 0, none⟩) (l.length) (q10)]
abbrev K_growth_sproutsAreDefined (l : List XSpan) : List (Nat × List Value) := [(10, encL cXSpan l)]
noncomputable def growth_sproutsAreDefined (fu : Nat) (l : List XSpan) : Option Bool :=
  bif growth_within ((l.length : Nat) : Int) 1 60 then (Option.bind (api_Span fu l) fun x1 =>
    some x1)
  else some false
theorem growth_sproutsAreDefined_fc (fu : Nat) (l : List XSpan) (q10 : Nat) (r : Bool) (hh : growth_sproutsAreDefined fu l = some r) : FC P GG 96 (A_growth_sproutsAreDefined l q10) (K_growth_sproutsAreDefined l) (.bool (r)) := by
  refine FC.of_fsat 10 100 Tryd.func96 (by kernel_rfl) (by kernel_rfl) (by kernel_rfl) ⟨PinL.pf (encL_pf cXSpan_pf _), trivial⟩ ?_
  unfold growth_sproutsAreDefined at hh
  rcases bb (growth_within ((l.length : Nat) : Int) 1 60) with h1 | h1
  ·rw [h1, cT] at hh
   cases h2 : api_Span fu l with
   | none => rw [h2, oN] at hh; cases hh
   | some x1 =>
    rw [h2, oS] at hh
    rw [← sI hh]
    exact FSat.d pfT 10 [hE, hE, hE, (z34i0 l), hE, hE, (z34i1 l q10 x1), hE, hE] [] (pc (growth_within_fc ((l.length : Nat) : Int) 1 60) <| pc h1 <| pc (api_Span_fc fu l q10 x1 h2) <| pc (z34p2 l q10) <| pt (z34r3 l) (⟨MemAt.same _ (encL_pf cXSpan_pf _), trivial⟩) <| pt (VR (Ren.emb [(10, 10, 0)]) (.bool (x1)) (.bool (x1))) (selfB_self 9 _ rfl _) <| pn) (by kernel_rfl) (by kernel_rfl)
  ·rw [h1, cF] at hh
   rw [← sI hh]
   exact FSat.d pfT 10 [hE, hE, hE, (z34i4 l), hE, hE, hE] [] (pc (growth_within_fc ((l.length : Nat) : Int) 1 60) <| pc h1 <| pn) (by kernel_rfl) (by kernel_rfl)

/- greenhew/growth.speciesIsDefined -/
noncomputable abbrev z29i0 (s : XSpecies) (q10 : Nat) (x1 : Bool) : Hint := (hB (hM (.bool (x1)) (.bool (x1)) (A_growth_yearsAreDefined s.Rise 5000 q10) (K_growth_yearsAreDefined s.Rise) [(10, 10, 0)]) true)
noncomputable abbrev z29i1 (s : XSpecies) (q11 : Nat) (x2 : Bool) : Hint := (hB (hM (.bool (x2)) (.bool (x2)) (A_growth_yearsAreDefined s.Thick 300 q11) (K_growth_yearsAreDefined s.Thick) [(10, 11, 0)]) true)
noncomputable abbrev z29i2 (s : XSpecies) (q12 : Nat) (x3 : Bool) : Hint := (hB (hM (.bool (x3)) (.bool (x3)) (A_growth_ladderIsDefined s.Ladder q12) (K_growth_ladderIsDefined s.Ladder) [(10, 12, 0)]) true)
noncomputable abbrev z29i3 (s : XSpecies) (q13 : Nat) (x4 : Bool) : Hint := (hM (.bool (x4)) (.bool (x4)) (A_growth_sproutsAreDefined s.Sprouts q13) (K_growth_sproutsAreDefined s.Sprouts) [(10, 13, 0)])
theorem z29p4 (s : XSpecies) (q10 : Nat) : VRs (Ren.emb [(10, 10, 0)]) (A_growth_yearsAreDefined s.Rise 5000 q10) [.slice (some ⟨10, 0, none⟩) (s.Rise.length) (q10), I (5000)] := (.cons _ _ _ _ (.slc 10 0 _ _ _ ⟨10, 0, 0, 0⟩ rfl (.inl rfl)) (.cons _ _ _ _ (VR.of_pf rfl) .nil))
theorem z29p5 (s : XSpecies) (q11 : Nat) : VRs (Ren.emb [(10, 11, 0)]) (A_growth_yearsAreDefined s.Thick 300 q11) [.slice (some ⟨11, 0, none⟩) (s.Thick.length) (q11), I (300)] := (.cons _ _ _ _ (.slc 10 0 _ _ _ ⟨11, 0, 0, 0⟩ rfl (.inl rfl)) (.cons _ _ _ _ (VR.of_pf rfl) .nil))
theorem z29p6 (s : XSpecies) (q12 : Nat) : VRs (Ren.emb [(10, 12, 0)]) (A_growth_ladderIsDefined s.Ladder q12) [.slice (some ⟨12, 0, none⟩) (s.Ladder.length) (q12)] := (.cons _ _ _ _ (.slc 10 0 _ _ _ ⟨12, 0, 0, 0⟩ rfl (.inl rfl)) .nil)
theorem z29p7 (s : XSpecies) (q13 : Nat) : VRs (Ren.emb [(10, 13, 0)]) (A_growth_sproutsAreDefined s.Sprouts q13) [.slice (some ⟨13, 0, none⟩) (s.Sprouts.length) (q13)] := (.cons _ _ _ _ (.slc 10 0 _ _ _ ⟨13, 0, 0, 0⟩ rfl (.inl rfl)) .nil)
abbrev z29r8 (s : XSpecies) : Prop := MemAt (Ren.emb [(10, 10, 0)]) (encL cInt s.Rise) 0 (encL cInt s.Rise) ∧ True
abbrev z29r9 (s : XSpecies) : Prop := MemAt (Ren.emb [(10, 11, 0)]) (encL cInt s.Thick) 0 (encL cInt s.Thick) ∧ True
abbrev z29r10 (s : XSpecies) : Prop := MemAt (Ren.emb [(10, 12, 0)]) (encL cXRung s.Ladder) 0 (encL cXRung s.Ladder) ∧ True
abbrev z29r11 (s : XSpecies) : Prop := MemAt (Ren.emb [(10, 13, 0)]) (encL cXSpan s.Sprouts) 0 (encL cXSpan s.Sprouts) ∧ True
noncomputable abbrev z29i12 (s : XSpecies) (q12 : Nat) (x3 : Bool) : Hint := (hB (hM (.bool (x3)) (.bool (x3)) (A_growth_ladderIsDefined s.Ladder q12) (K_growth_ladderIsDefined s.Ladder) [(10, 12, 0)]) false)
noncomputable abbrev z29i13 (s : XSpecies) (q11 : Nat) (x2 : Bool) : Hint := (hB (hM (.bool (x2)) (.bool (x2)) (A_growth_yearsAreDefined s.Thick 300 q11) (K_growth_yearsAreDefined s.Thick) [(10, 11, 0)]) false)
noncomputable abbrev z29i14 (s : XSpecies) (q10 : Nat) (x1 : Bool) : Hint := (hB (hM (.bool (x1)) (.bool (x1)) (A_growth_yearsAreDefined s.Rise 5000 q10) (K_growth_yearsAreDefined s.Rise) [(10, 10, 0)]) false)
abbrev A_growth_speciesIsDefined (s : XSpecies) (q10 q11 q12 q13 : Nat) : List Value := [.agg #[.slice (some ⟨10, 0, none⟩) (s.Rise.length) (q10), .slice (some ⟨11, 0, none⟩) (s.Thick.length) (q11), I (s.Top), I (s.Stout), I (s.Shade), I (s.Reach), .slice (some ⟨12, 0, none⟩) (s.Ladder.length) (q12), .slice (some ⟨13, 0, none⟩) (s.Sprouts.length) (q13)]]
abbrev K_growth_speciesIsDefined (s : XSpecies) : List (Nat × List Value) := [(10, encL cInt s.Rise), (11, encL cInt s.Thick), (12, encL cXRung s.Ladder), (13, encL cXSpan s.Sprouts)]
noncomputable def growth_speciesIsDefined (fu : Nat) (s : XSpecies) : Option Bool :=
  Option.bind (growth_yearsAreDefined fu s.Rise 5000) fun x1 =>
  bif x1 then (Option.bind (growth_yearsAreDefined fu s.Thick 300) fun x2 =>
    bif x2 then (bif growth_within s.Top 1 40000 then (bif growth_within s.Stout 1 3000 then (bif growth_within s.Shade 0 99 then (bif growth_within s.Reach 0 40000 then (Option.bind (growth_ladderIsDefined fu s.Ladder) fun x3 =>
              bif x3 then (Option.bind (growth_sproutsAreDefined fu s.Sprouts) fun x4 =>
                some x4)
              else some false)
            else some false)
          else some false)
        else some false)
      else some false)
    else some false)
  else some false
theorem growth_speciesIsDefined_fc (fu : Nat) (s : XSpecies) (q10 q11 q12 q13 : Nat) (r : Bool) (hh : growth_speciesIsDefined fu s = some r) : FC P GG 57 (A_growth_speciesIsDefined s q10 q11 q12 q13) (K_growth_speciesIsDefined s) (.bool (r)) := by
  refine FC.of_fsat 41 100 Tryd.func57 (by kernel_rfl) (by kernel_rfl) (by kernel_rfl) ⟨PinL.pf (encL_pf cInt_pf _), PinL.pf (encL_pf cInt_pf _), PinL.pf (encL_pf cXRung_pf _), PinL.pf (encL_pf cXSpan_pf _), trivial⟩ ?_
  unfold growth_speciesIsDefined at hh
  cases h1 : growth_yearsAreDefined fu s.Rise 5000 with
  | none => rw [h1, oN] at hh; cases hh
  | some x1 =>
   rw [h1, oS] at hh
   rcases bb (x1) with h2 | h2
   ·rw [h2, cT] at hh
    cases h3 : growth_yearsAreDefined fu s.Thick 300 with
    | none => rw [h3, oN] at hh; cases hh
    | some x2 =>
     rw [h3, oS] at hh
     rcases bb (x2) with h4 | h4
     ·rw [h4, cT] at hh
      rcases bb (growth_within s.Top 1 40000) with h5 | h5
      ·rw [h5, cT] at hh
       rcases bb (growth_within s.Stout 1 3000) with h6 | h6
       ·rw [h6, cT] at hh
        rcases bb (growth_within s.Shade 0 99) with h7 | h7
        ·rw [h7, cT] at hh
         rcases bb (growth_within s.Reach 0 40000) with h8 | h8
         ·rw [h8, cT] at hh
          cases h9 : growth_ladderIsDefined fu s.Ladder with
          | none => rw [h9, oN] at hh; cases hh
          | some x3 =>
           rw [h9, oS] at hh
           rcases bb (x3) with h10 | h10
           ·rw [h10, cT] at hh
            cases h11 : growth_sproutsAreDefined fu s.Sprouts with
            | none => rw [h11, oN] at hh; cases hh
            | some x4 =>
             rw [h11, oS] at hh
             rw [← sI hh]
             exact FSat.d pfT 10 (hR 4 ((z29i0 s q10 x1) :: hE :: hE :: hE :: (z29i1 s q11 x2) :: (hR 4 ((hB (hC (.bool (growth_within s.Top 1 40000))) true) :: (hR 4 ((hB (hC (.bool (growth_within s.Stout 1 3000))) true) :: (hR 4 ((hB (hC (.bool (growth_within s.Shade 0 99))) true) :: (hR 4 ((hB (hC (.bool (growth_within s.Reach 0 40000))) true) :: (hR 4 ((z29i2 s q12 x3) :: (hR 4 [(z29i3 s q13 x4), hE, hE]))))))))))))) [] (pc (growth_yearsAreDefined_fc fu s.Rise 5000 q10 x1 h1) <| pc (z29p4 s q10) <| pt (z29r8 s) (⟨MemAt.same _ (encL_pf cInt_pf _), trivial⟩) <| pt (VR (Ren.emb [(10, 10, 0)]) (.bool (x1)) (.bool (x1))) (selfB_self 9 _ rfl _) <| pc h2 <| pc (growth_yearsAreDefined_fc fu s.Thick 300 q11 x2 h3) <| pc (z29p5 s q11) <| pt (z29r9 s) (⟨MemAt.same _ (encL_pf cInt_pf _), trivial⟩) <| pt (VR (Ren.emb [(10, 11, 0)]) (.bool (x2)) (.bool (x2))) (selfB_self 9 _ rfl _) <| pc h4 <| pc (growth_within_fc s.Top 1 40000) <| pc h5 <| pc (growth_within_fc s.Stout 1 3000) <| pc h6 <| pc (growth_within_fc s.Shade 0 99) <| pc h7 <| pc (growth_within_fc s.Reach 0 40000) <| pc h8 <| pc (growth_ladderIsDefined_fc fu s.Ladder q12 x3 h9) <| pc (z29p6 s q12) <| pt (z29r10 s) (⟨MemAt.same _ (encL_pf cXRung_pf _), trivial⟩) <| pt (VR (Ren.emb [(10, 12, 0)]) (.bool (x3)) (.bool (x3))) (selfB_self 9 _ rfl _) <| pc h10 <| pc (growth_sproutsAreDefined_fc fu s.Sprouts q13 x4 h11) <| pc (z29p7 s q13) <| pt (z29r11 s) (⟨MemAt.same _ (encL_pf cXSpan_pf _), trivial⟩) <| pt (VR (Ren.emb [(10, 13, 0)]) (.bool (x4)) (.bool (x4))) (selfB_self 9 _ rfl _) <| pn) (by kernel_rfl) (by kernel_rfl)
           ·rw [h10, cF] at hh
            rw [← sI hh]
            exact FSat.d pfT 10 (hR 4 ((z29i0 s q10 x1) :: hE :: hE :: hE :: (z29i1 s q11 x2) :: (hR 4 ((hB (hC (.bool (growth_within s.Top 1 40000))) true) :: (hR 4 ((hB (hC (.bool (growth_within s.Stout 1 3000))) true) :: (hR 4 ((hB (hC (.bool (growth_within s.Shade 0 99))) true) :: (hR 4 ((hB (hC (.bool (growth_within s.Reach 0 40000))) true) :: (hR 4 ((z29i12 s q12 x3) :: (hR 4 []))))))))))))) [] (pc (growth_yearsAreDefined_fc fu s.Rise 5000 q10 x1 h1) <| pc (z29p4 s q10) <| pt (z29r8 s) (⟨MemAt.same _ (encL_pf cInt_pf _), trivial⟩) <| pt (VR (Ren.emb [(10, 10, 0)]) (.bool (x1)) (.bool (x1))) (selfB_self 9 _ rfl _) <| pc h2 <| pc (growth_yearsAreDefined_fc fu s.Thick 300 q11 x2 h3) <| pc (z29p5 s q11) <| pt (z29r9 s) (⟨MemAt.same _ (encL_pf cInt_pf _), trivial⟩) <| pt (VR (Ren.emb [(10, 11, 0)]) (.bool (x2)) (.bool (x2))) (selfB_self 9 _ rfl _) <| pc h4 <| pc (growth_within_fc s.Top 1 40000) <| pc h5 <| pc (growth_within_fc s.Stout 1 3000) <| pc h6 <| pc (growth_within_fc s.Shade 0 99) <| pc h7 <| pc (growth_within_fc s.Reach 0 40000) <| pc h8 <| pc (growth_ladderIsDefined_fc fu s.Ladder q12 x3 h9) <| pc (z29p6 s q12) <| pt (z29r10 s) (⟨MemAt.same _ (encL_pf cXRung_pf _), trivial⟩) <| pt (VR (Ren.emb [(10, 12, 0)]) (.bool (x3)) (.bool (x3))) (selfB_self 9 _ rfl _) <| pc h10 <| pn) (by kernel_rfl) (by kernel_rfl)
         ·rw [h8, cF] at hh
          rw [← sI hh]
          exact FSat.d pfT 10 (hR 4 ((z29i0 s q10 x1) :: hE :: hE :: hE :: (z29i1 s q11 x2) :: (hR 4 ((hB (hC (.bool (growth_within s.Top 1 40000))) true) :: (hR 4 ((hB (hC (.bool (growth_within s.Stout 1 3000))) true) :: (hR 4 ((hB (hC (.bool (growth_within s.Shade 0 99))) true) :: (hR 4 ((hB (hC (.bool (growth_within s.Reach 0 40000))) false) :: (hR 6 []))))))))))) [] (pc (growth_yearsAreDefined_fc fu s.Rise 5000 q10 x1 h1) <| pc (z29p4 s q10) <| pt (z29r8 s) (⟨MemAt.same _ (encL_pf cInt_pf _), trivial⟩) <| pt (VR (Ren.emb [(10, 10, 0)]) (.bool (x1)) (.bool (x1))) (selfB_self 9 _ rfl _) <| pc h2 <| pc (growth_yearsAreDefined_fc fu s.Thick 300 q11 x2 h3) <| pc (z29p5 s q11) <| pt (z29r9 s) (⟨MemAt.same _ (encL_pf cInt_pf _), trivial⟩) <| pt (VR (Ren.emb [(10, 11, 0)]) (.bool (x2)) (.bool (x2))) (selfB_self 9 _ rfl _) <| pc h4 <| pc (growth_within_fc s.Top 1 40000) <| pc h5 <| pc (growth_within_fc s.Stout 1 3000) <| pc h6 <| pc (growth_within_fc s.Shade 0 99) <| pc h7 <| pc (growth_within_fc s.Reach 0 40000) <| pc h8 <| pn) (by kernel_rfl) (by kernel_rfl)
        ·rw [h7, cF] at hh
         rw [← sI hh]
         exact FSat.d pfT 10 (hR 4 ((z29i0 s q10 x1) :: hE :: hE :: hE :: (z29i1 s q11 x2) :: (hR 4 ((hB (hC (.bool (growth_within s.Top 1 40000))) true) :: (hR 4 ((hB (hC (.bool (growth_within s.Stout 1 3000))) true) :: (hR 4 ((hB (hC (.bool (growth_within s.Shade 0 99))) false) :: (hR 8 []))))))))) [] (pc (growth_yearsAreDefined_fc fu s.Rise 5000 q10 x1 h1) <| pc (z29p4 s q10) <| pt (z29r8 s) (⟨MemAt.same _ (encL_pf cInt_pf _), trivial⟩) <| pt (VR (Ren.emb [(10, 10, 0)]) (.bool (x1)) (.bool (x1))) (selfB_self 9 _ rfl _) <| pc h2 <| pc (growth_yearsAreDefined_fc fu s.Thick 300 q11 x2 h3) <| pc (z29p5 s q11) <| pt (z29r9 s) (⟨MemAt.same _ (encL_pf cInt_pf _), trivial⟩) <| pt (VR (Ren.emb [(10, 11, 0)]) (.bool (x2)) (.bool (x2))) (selfB_self 9 _ rfl _) <| pc h4 <| pc (growth_within_fc s.Top 1 40000) <| pc h5 <| pc (growth_within_fc s.Stout 1 3000) <| pc h6 <| pc (growth_within_fc s.Shade 0 99) <| pc h7 <| pn) (by kernel_rfl) (by kernel_rfl)
       ·rw [h6, cF] at hh
        rw [← sI hh]
        exact FSat.d pfT 10 (hR 4 ((z29i0 s q10 x1) :: hE :: hE :: hE :: (z29i1 s q11 x2) :: (hR 4 ((hB (hC (.bool (growth_within s.Top 1 40000))) true) :: (hR 4 ((hB (hC (.bool (growth_within s.Stout 1 3000))) false) :: (hR 10 []))))))) [] (pc (growth_yearsAreDefined_fc fu s.Rise 5000 q10 x1 h1) <| pc (z29p4 s q10) <| pt (z29r8 s) (⟨MemAt.same _ (encL_pf cInt_pf _), trivial⟩) <| pt (VR (Ren.emb [(10, 10, 0)]) (.bool (x1)) (.bool (x1))) (selfB_self 9 _ rfl _) <| pc h2 <| pc (growth_yearsAreDefined_fc fu s.Thick 300 q11 x2 h3) <| pc (z29p5 s q11) <| pt (z29r9 s) (⟨MemAt.same _ (encL_pf cInt_pf _), trivial⟩) <| pt (VR (Ren.emb [(10, 11, 0)]) (.bool (x2)) (.bool (x2))) (selfB_self 9 _ rfl _) <| pc h4 <| pc (growth_within_fc s.Top 1 40000) <| pc h5 <| pc (growth_within_fc s.Stout 1 3000) <| pc h6 <| pn) (by kernel_rfl) (by kernel_rfl)
      ·rw [h5, cF] at hh
       rw [← sI hh]
       exact FSat.d pfT 10 (hR 4 ((z29i0 s q10 x1) :: hE :: hE :: hE :: (z29i1 s q11 x2) :: (hR 4 ((hB (hC (.bool (growth_within s.Top 1 40000))) false) :: (hR 12 []))))) [] (pc (growth_yearsAreDefined_fc fu s.Rise 5000 q10 x1 h1) <| pc (z29p4 s q10) <| pt (z29r8 s) (⟨MemAt.same _ (encL_pf cInt_pf _), trivial⟩) <| pt (VR (Ren.emb [(10, 10, 0)]) (.bool (x1)) (.bool (x1))) (selfB_self 9 _ rfl _) <| pc h2 <| pc (growth_yearsAreDefined_fc fu s.Thick 300 q11 x2 h3) <| pc (z29p5 s q11) <| pt (z29r9 s) (⟨MemAt.same _ (encL_pf cInt_pf _), trivial⟩) <| pt (VR (Ren.emb [(10, 11, 0)]) (.bool (x2)) (.bool (x2))) (selfB_self 9 _ rfl _) <| pc h4 <| pc (growth_within_fc s.Top 1 40000) <| pc h5 <| pn) (by kernel_rfl) (by kernel_rfl)
     ·rw [h4, cF] at hh
      rw [← sI hh]
      exact FSat.d pfT 10 (hR 4 ((z29i0 s q10 x1) :: hE :: hE :: hE :: (z29i13 s q11 x2) :: (hR 14 []))) [] (pc (growth_yearsAreDefined_fc fu s.Rise 5000 q10 x1 h1) <| pc (z29p4 s q10) <| pt (z29r8 s) (⟨MemAt.same _ (encL_pf cInt_pf _), trivial⟩) <| pt (VR (Ren.emb [(10, 10, 0)]) (.bool (x1)) (.bool (x1))) (selfB_self 9 _ rfl _) <| pc h2 <| pc (growth_yearsAreDefined_fc fu s.Thick 300 q11 x2 h3) <| pc (z29p5 s q11) <| pt (z29r9 s) (⟨MemAt.same _ (encL_pf cInt_pf _), trivial⟩) <| pt (VR (Ren.emb [(10, 11, 0)]) (.bool (x2)) (.bool (x2))) (selfB_self 9 _ rfl _) <| pc h4 <| pn) (by kernel_rfl) (by kernel_rfl)
   ·rw [h2, cF] at hh
    rw [← sI hh]
    exact FSat.d pfT 10 (hR 4 ((z29i14 s q10 x1) :: (hR 15 []))) [] (pc (growth_yearsAreDefined_fc fu s.Rise 5000 q10 x1 h1) <| pc (z29p4 s q10) <| pt (z29r8 s) (⟨MemAt.same _ (encL_pf cInt_pf _), trivial⟩) <| pt (VR (Ren.emb [(10, 10, 0)]) (.bool (x1)) (.bool (x1))) (selfB_self 9 _ rfl _) <| pc h2 <| pn) (by kernel_rfl) (by kernel_rfl)

/- greenhew/growth.weatherIsDefined -/
abbrev A_growth_weatherIsDefined (w : XWeather) : List Value := [.agg #[I (w.Light), I (w.Browse), I (w.Mild)]]
noncomputable def growth_weatherIsDefined (w : XWeather) : Bool :=
  bif growth_within w.Light 0 100 then (bif growth_within w.Browse 0 100 then growth_within w.Mild 0 200
    else false)
  else false
theorem growth_weatherIsDefined_fc (w : XWeather) : FC P GG 59 (A_growth_weatherIsDefined w) [] (.bool (growth_weatherIsDefined w)) := by
  refine FC.of_fsat 16 100 Tryd.func59 (by kernel_rfl) (by kernel_rfl) (by kernel_rfl) trivial ?_
  rcases bb (growth_within w.Light 0 100) with h1 | h1
  ·rcases bb (growth_within w.Browse 0 100) with h2 | h2
   ·have e : growth_weatherIsDefined w = growth_within w.Mild 0 200 := by unfold growth_weatherIsDefined; rw [h1, cT, h2, cT]; first | done | rfl
    rw [e]
    exact FSat.d pfT 10 (hR 4 ((hB (hC (.bool (growth_within w.Light 0 100))) true) :: hE :: hE :: hE :: (hB (hC (.bool (growth_within w.Browse 0 100))) true) :: (hR 4 [(hC (.bool (growth_within w.Mild 0 200))), hE, hE]))) [] (pc (growth_within_fc w.Light 0 100) <| pc h1 <| pc (growth_within_fc w.Browse 0 100) <| pc h2 <| pc (growth_within_fc w.Mild 0 200) <| pn) (by kernel_rfl) (by kernel_rfl)
   ·have e : growth_weatherIsDefined w = false := by unfold growth_weatherIsDefined; rw [h1, cT, h2, cF]; first | done | rfl
    rw [e]
    exact FSat.d pfT 10 (hR 4 ((hB (hC (.bool (growth_within w.Light 0 100))) true) :: hE :: hE :: hE :: (hB (hC (.bool (growth_within w.Browse 0 100))) false) :: (hR 4 []))) [] (pc (growth_within_fc w.Light 0 100) <| pc h1 <| pc (growth_within_fc w.Browse 0 100) <| pc h2 <| pn) (by kernel_rfl) (by kernel_rfl)
  ·have e : growth_weatherIsDefined w = false := by unfold growth_weatherIsDefined; rw [h1, cF]; first | done | rfl
   rw [e]
   exact FSat.d pfT 10 (hR 4 ((hB (hC (.bool (growth_within w.Light 0 100))) false) :: (hR 5 []))) [] (pc (growth_within_fc w.Light 0 100) <| pc h1 <| pn) (by kernel_rfl) (by kernel_rfl)

structure Xgrower where
  Species : XSpecies

def zXgrower : Xgrower := ⟨zXSpecies⟩

/- greenhew/growth.atAge[int] -/
noncomputable abbrev z42i0 (table : List Int) (age : Int) : Hint := (hL (I ((at_ 0 table (imin age (W (((table.length : Nat) : Int) - 1)))))))
abbrev z42r1 (table : List Int) (age : Int) : Prop := 0 ≤ (imin age (W (((table.length : Nat) : Int) - 1))) ∧ (imin age (W (((table.length : Nat) : Int) - 1))) < ((table.length : Nat) : Int)
abbrev z42r2 (table : List Int) (age : Int) : Prop := RowLd P 3 (encL cInt table) (0 + (imin age (W (((table.length : Nat) : Int) - 1))).toNat * 1) (I ((at_ 0 table (imin age (W (((table.length : Nat) : Int) - 1))))))
abbrev A_growth_atAge (table : List Int) (age : Int) (q10 : Nat) : List Value := [.slice (some ⟨10, 0, none⟩) (table.length) (q10), I (age)]
abbrev K_growth_atAge (table : List Int) : List (Nat × List Value) := [(10, encL cInt table)]
noncomputable def growth_atAge (table : List Int) (age : Int) : Option Int :=
  bif decide (0 ≤ (imin age (W (((table.length : Nat) : Int) - 1))) ∧ (imin age (W (((table.length : Nat) : Int) - 1))) < ((table.length : Nat) : Int)) then some (at_ 0 table (imin age (W (((table.length : Nat) : Int) - 1)))) else none
theorem growth_atAge_fc (table : List Int) (age : Int) (q10 : Nat) (r : Int) (hh : growth_atAge table age = some r) : FC P GG 122 (A_growth_atAge table age q10) (K_growth_atAge table) (I (r)) := by
  refine FC.of_fsat 13 100 Tryd.func122 (by kernel_rfl) (by kernel_rfl) (by kernel_rfl) ⟨PinL.pf (encL_pf cInt_pf _), trivial⟩ ?_
  unfold growth_atAge at hh
  rcases bb (decide (0 ≤ (imin age (W (((table.length : Nat) : Int) - 1))) ∧ (imin age (W (((table.length : Nat) : Int) - 1))) < ((table.length : Nat) : Int))) with h1 | h1
  rotate_left
  ·rw [h1, cF] at hh; cases hh
  ·rw [h1, cT] at hh
   rw [← sI hh]
   exact FSat.d pfT 10 (hR 7 [hX, (z42i0 table age), hE]) [] (pt (z42r1 table age) (of_decide_eq_true h1) <| pt (z42r2 table age) (RowLd.part cInt_len _ rfl rfl _ _ (of_decide_eq_true h1) 0 _ rfl (by decide)) <| pn) (by kernel_rfl) (by kernel_rfl)

/- (greenhew/growth.grower).inWeather -/
abbrev A_growth_grower_inWeather (usual : Int) (w : XWeather) : List Value := [.pointer (some ⟨10, 0, none⟩), I (usual), .agg #[I (w.Light), I (w.Browse), I (w.Mild)]]
abbrev K_growth_grower_inWeather (g : Xgrower) (q11 q12 q13 q14 : Nat) : List (Nat × List Value) := [(11, encL cInt g.Species.Rise), (12, encL cInt g.Species.Thick), (13, encL cXRung g.Species.Ladder), (14, encL cXSpan g.Species.Sprouts), (10, [.slice (some ⟨11, 0, none⟩) (g.Species.Rise.length) (q11), .slice (some ⟨12, 0, none⟩) (g.Species.Thick.length) (q12), I (g.Species.Top), I (g.Species.Stout), I (g.Species.Shade), I (g.Species.Reach), .slice (some ⟨13, 0, none⟩) (g.Species.Ladder.length) (q13), .slice (some ⟨14, 0, none⟩) (g.Species.Sprouts.length) (q14)])]
noncomputable def growth_grower_inWeather (g : Xgrower) (usual : Int) (w : XWeather) : Option Int :=
  bif decide ((W (100 * (W (100 - g.Species.Shade)))) ≠ 0) then some (W ((W ((W (usual * (imax 0 (W (w.Light - g.Species.Shade))))) * w.Mild)).tdiv (W (100 * (W (100 - g.Species.Shade)))))) else none
theorem growth_grower_inWeather_fc (g : Xgrower) (usual : Int) (w : XWeather) (q11 q12 q13 q14 : Nat) (r : Int) (hh : growth_grower_inWeather g usual w = some r) : FC P GG 121 (A_growth_grower_inWeather usual w) (K_growth_grower_inWeather g q11 q12 q13 q14) (I (r)) := by
  refine FC.of_fsat 31 100 Tryd.func121 (by kernel_rfl) (by kernel_rfl) (by kernel_rfl) ⟨PinL.pf (encL_pf cInt_pf _), PinL.pf (encL_pf cInt_pf _), PinL.pf (encL_pf cXRung_pf _), PinL.pf (encL_pf cXSpan_pf _), PinL.lit (by kernel_rfl), trivial⟩ ?_
  unfold growth_grower_inWeather at hh
  rcases bb (decide ((W (100 * (W (100 - g.Species.Shade)))) ≠ 0)) with h1 | h1
  rotate_left
  ·rw [h1, cF] at hh; cases hh
  ·rw [h1, cT] at hh
   rw [← sI hh]
   exact FSat.d pfT 12 (hR 25 [hD, hE]) [] (pt ((W (100 * (W (100 - g.Species.Shade)))) ≠ 0) (of_decide_eq_true h1) <| pn) (by kernel_rfl) (by kernel_rfl)

/- (greenhew/growth.grower).height -/
noncomputable abbrev z41i0 (g : Xgrower) (x_1 : XStand) (q11 : Nat) (x1 : Int) : Hint := (hM (I (x1)) (I (x1)) (A_growth_atAge g.Species.Rise x_1.Age q11) (K_growth_atAge g.Species.Rise) [(10, 11, 0)])
noncomputable abbrev z41i1 (g : Xgrower) (w : XWeather) (q11 q12 q13 q14 : Nat) (x1 x2 : Int) : Hint := (hM (I (x2)) (I (x2)) (A_growth_grower_inWeather x1 w) (K_growth_grower_inWeather g q11 q12 q13 q14) [(11, 11, 0), (12, 12, 0), (13, 13, 0), (14, 14, 0), (10, 10, 0)])
theorem z41p2 (g : Xgrower) (x_1 : XStand) (q11 : Nat) : VRs (Ren.emb [(10, 11, 0)]) (A_growth_atAge g.Species.Rise x_1.Age q11) [.slice (some ⟨11, 0, none⟩) (g.Species.Rise.length) (q11), I (x_1.Age)] := (.cons _ _ _ _ (.slc 10 0 _ _ _ ⟨11, 0, 0, 0⟩ rfl (.inl rfl)) (.cons _ _ _ _ (VR.of_pf rfl) .nil))
theorem z41p3 (w : XWeather) (x1 : Int) : VRs (Ren.emb [(11, 11, 0), (12, 12, 0), (13, 13, 0), (14, 14, 0), (10, 10, 0)]) (A_growth_grower_inWeather x1 w) [.pointer (some ⟨10, 0, none⟩), I (x1), .agg #[I (w.Light), I (w.Browse), I (w.Mild)]] := (.cons _ _ _ _ (.ptr 10 0 ⟨10, 0, 0, 0⟩ rfl) (.cons _ _ _ _ (VR.of_pf rfl) (.cons _ _ _ _ (VR.of_pf rfl) .nil)))
theorem z41p4 (g : Xgrower) (q11 q12 q13 q14 : Nat) : MemAt (Ren.emb [(11, 11, 0), (12, 12, 0), (13, 13, 0), (14, 14, 0), (10, 10, 0)]) (encL cInt g.Species.Rise) 0 (encL cInt g.Species.Rise) ∧ MemAt (Ren.emb [(11, 11, 0), (12, 12, 0), (13, 13, 0), (14, 14, 0), (10, 10, 0)]) (encL cInt g.Species.Thick) 0 (encL cInt g.Species.Thick) ∧ MemAt (Ren.emb [(11, 11, 0), (12, 12, 0), (13, 13, 0), (14, 14, 0), (10, 10, 0)]) (encL cXRung g.Species.Ladder) 0 (encL cXRung g.Species.Ladder) ∧ MemAt (Ren.emb [(11, 11, 0), (12, 12, 0), (13, 13, 0), (14, 14, 0), (10, 10, 0)]) (encL cXSpan g.Species.Sprouts) 0 (encL cXSpan g.Species.Sprouts) ∧ MemAt (Ren.emb [(11, 11, 0), (12, 12, 0), (13, 13, 0), (14, 14, 0), (10, 10, 0)]) [.slice (some ⟨11, 0, none⟩) (g.Species.Rise.length) (q11), .slice (some ⟨12, 0, none⟩) (g.Species.Thick.length) (q12), I (g.Species.Top), I (g.Species.Stout), I (g.Species.Shade), I (g.Species.Reach), .slice (some ⟨13, 0, none⟩) (g.Species.Ladder.length) (q13), .slice (some ⟨14, 0, none⟩) (g.Species.Sprouts.length) (q14)] 0 [.slice (some ⟨11, 0, none⟩) (g.Species.Rise.length) (q11), .slice (some ⟨12, 0, none⟩) (g.Species.Thick.length) (q12), I (g.Species.Top), I (g.Species.Stout), I (g.Species.Shade), I (g.Species.Reach), .slice (some ⟨13, 0, none⟩) (g.Species.Ladder.length) (q13), .slice (some ⟨14, 0, none⟩) (g.Species.Sprouts.length) (q14)] ∧ True := ⟨MemAt.same _ (encL_pf cInt_pf _), MemAt.same _ (encL_pf cInt_pf _), MemAt.same _ (encL_pf cXRung_pf _), MemAt.same _ (encL_pf cXSpan_pf _), MemAt.of (.cons _ _ _ _ (.slc 11 0 _ _ _ ⟨11, 0, 0, 0⟩ rfl (.inl rfl)) (.cons _ _ _ _ (.slc 12 0 _ _ _ ⟨12, 0, 0, 0⟩ rfl (.inl rfl)) (.cons _ _ _ _ (VR.of_pf rfl) (.cons _ _ _ _ (VR.of_pf rfl) (.cons _ _ _ _ (VR.of_pf rfl) (.cons _ _ _ _ (VR.of_pf rfl) (.cons _ _ _ _ (.slc 13 0 _ _ _ ⟨13, 0, 0, 0⟩ rfl (.inl rfl)) (.cons _ _ _ _ (.slc 14 0 _ _ _ ⟨14, 0, 0, 0⟩ rfl (.inl rfl)) .nil)))))))), trivial⟩
abbrev z41r5 (g : Xgrower) : Prop := MemAt (Ren.emb [(10, 11, 0)]) (encL cInt g.Species.Rise) 0 (encL cInt g.Species.Rise) ∧ True
abbrev z41r6 (x2 : Int) : Prop := VR (Ren.emb [(11, 11, 0), (12, 12, 0), (13, 13, 0), (14, 14, 0), (10, 10, 0)]) (I (x2)) (I (x2))
abbrev A_growth_grower_height (x_1 : XStand) (w : XWeather) : List Value := [.pointer (some ⟨10, 0, none⟩), .agg #[I (x_1.Age), I (x_1.Shoots), I (x_1.Height), I (x_1.Girth)], .agg #[I (w.Light), I (w.Browse), I (w.Mild)]]
abbrev K_growth_grower_height (g : Xgrower) (q11 q12 q13 q14 : Nat) : List (Nat × List Value) := [(11, encL cInt g.Species.Rise), (12, encL cInt g.Species.Thick), (13, encL cXRung g.Species.Ladder), (14, encL cXSpan g.Species.Sprouts), (10, [.slice (some ⟨11, 0, none⟩) (g.Species.Rise.length) (q11), .slice (some ⟨12, 0, none⟩) (g.Species.Thick.length) (q12), I (g.Species.Top), I (g.Species.Stout), I (g.Species.Shade), I (g.Species.Reach), .slice (some ⟨13, 0, none⟩) (g.Species.Ladder.length) (q13), .slice (some ⟨14, 0, none⟩) (g.Species.Sprouts.length) (q14)])]
noncomputable def growth_grower_height (g : Xgrower) (x_1 : XStand) (w : XWeather) : Option Int :=
  Option.bind (growth_atAge g.Species.Rise x_1.Age) fun x1 =>
  Option.bind (growth_grower_inWeather g x1 w) fun x2 =>
  bif decide (x_1.Height < g.Species.Reach) then some (imin (W (x_1.Height + (W ((W (x2 * (W (100 - w.Browse)))).tdiv 100)))) g.Species.Top)
  else some (imin (W (x_1.Height + x2)) g.Species.Top)
theorem growth_grower_height_fc (g : Xgrower) (x_1 : XStand) (w : XWeather) (q11 q12 q13 q14 : Nat) (r : Int) (hh : growth_grower_height g x_1 w = some r) : FC P GG 98 (A_growth_grower_height x_1 w) (K_growth_grower_height g q11 q12 q13 q14) (I (r)) := by
  refine FC.of_fsat 43 100 Tryd.func98 (by kernel_rfl) (by kernel_rfl) (by kernel_rfl) ⟨PinL.pf (encL_pf cInt_pf _), PinL.pf (encL_pf cInt_pf _), PinL.pf (encL_pf cXRung_pf _), PinL.pf (encL_pf cXSpan_pf _), PinL.lit (by kernel_rfl), trivial⟩ ?_
  unfold growth_grower_height at hh
  cases h1 : growth_atAge g.Species.Rise x_1.Age with
  | none => rw [h1, oN] at hh; cases hh
  | some x1 =>
   rw [h1, oS] at hh
   cases h2 : growth_grower_inWeather g x1 w with
   | none => rw [h2, oN] at hh; cases hh
   | some x2 =>
    rw [h2, oS] at hh
    rcases bb (decide (x_1.Height < g.Species.Reach)) with h3 | h3
    ·rw [h3, cT] at hh
     rw [← sI hh]
     exact FSat.d pfT 17 (hR 11 ((z41i0 g x_1 q11 x1) :: hE :: (z41i1 g w q11 q12 q13 q14 x1 x2) :: (hR 8 (hT :: (hR 18 []))))) [] (pc (growth_atAge_fc g.Species.Rise x_1.Age q11 x1 h1) <| pc (z41p2 g x_1 q11) <| pt (z41r5 g) (⟨MemAt.same _ (encL_pf cInt_pf _), trivial⟩) <| pt (VR (Ren.emb [(10, 11, 0)]) (I (x1)) (I (x1))) (selfB_self 9 _ rfl _) <| pc (growth_grower_inWeather_fc g x1 w q11 q12 q13 q14 x2 h2) <| pc (z41p3 w x1) <| pc (z41p4 g q11 q12 q13 q14) <| pt (z41r6 x2) (selfB_self 9 _ rfl _) <| pc h3 <| pn) (by kernel_rfl) (by kernel_rfl)
    ·rw [h3, cF] at hh
     rw [← sI hh]
     exact FSat.d pfT 17 (hR 11 ((z41i0 g x_1 q11 x1) :: hE :: (z41i1 g w q11 q12 q13 q14 x1 x2) :: (hR 8 (hF :: (hR 11 []))))) [] (pc (growth_atAge_fc g.Species.Rise x_1.Age q11 x1 h1) <| pc (z41p2 g x_1 q11) <| pt (z41r5 g) (⟨MemAt.same _ (encL_pf cInt_pf _), trivial⟩) <| pt (VR (Ren.emb [(10, 11, 0)]) (I (x1)) (I (x1))) (selfB_self 9 _ rfl _) <| pc (growth_grower_inWeather_fc g x1 w q11 q12 q13 q14 x2 h2) <| pc (z41p3 w x1) <| pc (z41p4 g q11 q12 q13 q14) <| pt (z41r6 x2) (selfB_self 9 _ rfl _) <| pc h3 <| pn) (by kernel_rfl) (by kernel_rfl)

/- (greenhew/growth.grower).shoots -/
noncomputable abbrev z40i0 (g : Xgrower) (v23 : Int) : Hint := (hL (.agg #[I ((at_ zXRung g.Species.Ladder v23).Height), I ((at_ zXRung g.Species.Ladder v23).Shoots)]))
abbrev z40r1 (g : Xgrower) (v23 : Int) : Prop := RowLd P 119 (encL cXRung g.Species.Ladder) (0 + v23.toNat * 2) (.agg #[I ((at_ zXRung g.Species.Ladder v23).Height), I ((at_ zXRung g.Species.Ladder v23).Shoots)])
noncomputable abbrev z40i2 (g : Xgrower) (x_1 : XStand) (w : XWeather) (q11 q12 q13 q14 : Nat) (x1 : Int) : Hint := (hM (I (x1)) (I (x1)) (A_growth_grower_height x_1 w) (K_growth_grower_height g q11 q12 q13 q14) [(11, 11, 0), (12, 12, 0), (13, 13, 0), (14, 14, 0), (10, 10, 0)])
theorem z40p3 (x_1 : XStand) (w : XWeather) : VRs (Ren.emb [(11, 11, 0), (12, 12, 0), (13, 13, 0), (14, 14, 0), (10, 10, 0)]) (A_growth_grower_height x_1 w) [.pointer (some ⟨10, 0, none⟩), .agg #[I (x_1.Age), I (x_1.Shoots), I (x_1.Height), I (x_1.Girth)], .agg #[I (w.Light), I (w.Browse), I (w.Mild)]] := (.cons _ _ _ _ (.ptr 10 0 ⟨10, 0, 0, 0⟩ rfl) (.cons _ _ _ _ (VR.of_pf rfl) (.cons _ _ _ _ (VR.of_pf rfl) .nil)))
theorem z40p4 (g : Xgrower) (q11 q12 q13 q14 : Nat) : MemAt (Ren.emb [(11, 11, 0), (12, 12, 0), (13, 13, 0), (14, 14, 0), (10, 10, 0)]) (encL cInt g.Species.Rise) 0 (encL cInt g.Species.Rise) ∧ MemAt (Ren.emb [(11, 11, 0), (12, 12, 0), (13, 13, 0), (14, 14, 0), (10, 10, 0)]) (encL cInt g.Species.Thick) 0 (encL cInt g.Species.Thick) ∧ MemAt (Ren.emb [(11, 11, 0), (12, 12, 0), (13, 13, 0), (14, 14, 0), (10, 10, 0)]) (encL cXRung g.Species.Ladder) 0 (encL cXRung g.Species.Ladder) ∧ MemAt (Ren.emb [(11, 11, 0), (12, 12, 0), (13, 13, 0), (14, 14, 0), (10, 10, 0)]) (encL cXSpan g.Species.Sprouts) 0 (encL cXSpan g.Species.Sprouts) ∧ MemAt (Ren.emb [(11, 11, 0), (12, 12, 0), (13, 13, 0), (14, 14, 0), (10, 10, 0)]) [.slice (some ⟨11, 0, none⟩) (g.Species.Rise.length) (q11), .slice (some ⟨12, 0, none⟩) (g.Species.Thick.length) (q12), I (g.Species.Top), I (g.Species.Stout), I (g.Species.Shade), I (g.Species.Reach), .slice (some ⟨13, 0, none⟩) (g.Species.Ladder.length) (q13), .slice (some ⟨14, 0, none⟩) (g.Species.Sprouts.length) (q14)] 0 [.slice (some ⟨11, 0, none⟩) (g.Species.Rise.length) (q11), .slice (some ⟨12, 0, none⟩) (g.Species.Thick.length) (q12), I (g.Species.Top), I (g.Species.Stout), I (g.Species.Shade), I (g.Species.Reach), .slice (some ⟨13, 0, none⟩) (g.Species.Ladder.length) (q13), .slice (some ⟨14, 0, none⟩) (g.Species.Sprouts.length) (q14)] ∧ True := ⟨MemAt.same _ (encL_pf cInt_pf _), MemAt.same _ (encL_pf cInt_pf _), MemAt.same _ (encL_pf cXRung_pf _), MemAt.same _ (encL_pf cXSpan_pf _), MemAt.of (.cons _ _ _ _ (.slc 11 0 _ _ _ ⟨11, 0, 0, 0⟩ rfl (.inl rfl)) (.cons _ _ _ _ (.slc 12 0 _ _ _ ⟨12, 0, 0, 0⟩ rfl (.inl rfl)) (.cons _ _ _ _ (VR.of_pf rfl) (.cons _ _ _ _ (VR.of_pf rfl) (.cons _ _ _ _ (VR.of_pf rfl) (.cons _ _ _ _ (VR.of_pf rfl) (.cons _ _ _ _ (.slc 13 0 _ _ _ ⟨13, 0, 0, 0⟩ rfl (.inl rfl)) (.cons _ _ _ _ (.slc 14 0 _ _ _ ⟨14, 0, 0, 0⟩ rfl (.inl rfl)) .nil)))))))), trivial⟩
abbrev z40r5 (x1 : Int) : Prop := VR (Ren.emb [(11, 11, 0), (12, 12, 0), (13, 13, 0), (14, 14, 0), (10, 10, 0)]) (I (x1)) (I (x1))
abbrev A_growth_grower_shoots (x_1 : XStand) (w : XWeather) : List Value := [.pointer (some ⟨10, 0, none⟩), .agg #[I (x_1.Age), I (x_1.Shoots), I (x_1.Height), I (x_1.Girth)], .agg #[I (w.Light), I (w.Browse), I (w.Mild)]]
abbrev K_growth_grower_shoots (g : Xgrower) (q11 q12 q13 q14 : Nat) : List (Nat × List Value) := [(11, encL cInt g.Species.Rise), (12, encL cInt g.Species.Thick), (13, encL cXRung g.Species.Ladder), (14, encL cXSpan g.Species.Sprouts), (10, [.slice (some ⟨11, 0, none⟩) (g.Species.Rise.length) (q11), .slice (some ⟨12, 0, none⟩) (g.Species.Thick.length) (q12), I (g.Species.Top), I (g.Species.Stout), I (g.Species.Shade), I (g.Species.Reach), .slice (some ⟨13, 0, none⟩) (g.Species.Ladder.length) (q13), .slice (some ⟨14, 0, none⟩) (g.Species.Sprouts.length) (q14)])]
noncomputable def growth_grower_shoots_L (fu : Nat) (g : Xgrower) (x_1 : XStand) (w : XWeather) : Nat → (Int → Int → Int → Option Int)
  | 0 => (fun _ _ _ => none)
  | fk + 1 => (fun v8 v23 x1 => bif decide (v23 < ((g.Species.Ladder.length : Nat) : Int)) then (bif decide (0 ≤ v23 ∧ v23 < ((g.Species.Ladder.length : Nat) : Int)) then (bif decide (((at_ zXRung g.Species.Ladder v23).Height) ≤ x1) then growth_grower_shoots_L fu g x_1 w fk (imin v8 ((at_ zXRung g.Species.Ladder v23).Shoots)) (W (v23 + 1)) x1
        else growth_grower_shoots_L fu g x_1 w fk v8 (W (v23 + 1)) x1) else none)
      else some v8)
theorem growth_grower_shoots_L_s0 (fu : Nat) (g : Xgrower) (x_1 : XStand) (w : XWeather) (fk : Nat) (v8 v23 x1 : Int) : growth_grower_shoots_L fu g x_1 w (fk + 1) v8 v23 x1 = (bif decide (v23 < ((g.Species.Ladder.length : Nat) : Int)) then (bif decide (0 ≤ v23 ∧ v23 < ((g.Species.Ladder.length : Nat) : Int)) then (bif decide (((at_ zXRung g.Species.Ladder v23).Height) ≤ x1) then growth_grower_shoots_L fu g x_1 w fk (imin v8 ((at_ zXRung g.Species.Ladder v23).Shoots)) (W (v23 + 1)) x1
        else growth_grower_shoots_L fu g x_1 w fk v8 (W (v23 + 1)) x1) else none)
      else some v8) := rfl
noncomputable def growth_grower_shoots (fu : Nat) (g : Xgrower) (x_1 : XStand) (w : XWeather) : Option Int :=
  Option.bind (growth_grower_height g x_1 w) fun x1 =>
  growth_grower_shoots_L fu g x_1 w fu x_1.Shoots 0 x1
theorem growth_grower_shoots_L_fs (fu : Nat) (g : Xgrower) (x_1 : XStand) (w : XWeather) (q11 q12 q13 q14 : Nat) : ∀ fk, (∀ (v8 v23 x1 r : Int), growth_grower_shoots_L fu g x_1 w fk v8 v23 x1 = some r → FSat P GG Tryd.f97 (I (r)) (ids (looses (K_growth_grower_shoots g q11 q12 q13 q14))) 37 [.lp (cA (bodyOf Tryd.f97) [1, 1, 0, 1, 0, 0]), .blk 0, .code (cA (bodyOf Tryd.f97) [1, 1, 1])] (tOf 37 [(6, I (0)), (7, I (x1)), (8, I (v8)), (21, .slice (some ⟨13, 0, none⟩) (g.Species.Ladder.length) (q13)), (22, I (((g.Species.Ladder.length : Nat) : Int))), (23, I (v23))]) (mOf 100 [(0, .rom [I (1), I (2), I (3)] .glob), (10, .rom ([.slice (some ⟨11, 0, none⟩) (g.Species.Rise.length) (q11), .slice (some ⟨12, 0, none⟩) (g.Species.Thick.length) (q12), I (g.Species.Top), I (g.Species.Stout), I (g.Species.Shade), I (g.Species.Reach), .slice (some ⟨13, 0, none⟩) (g.Species.Ladder.length) (q13), .slice (some ⟨14, 0, none⟩) (g.Species.Sprouts.length) (q14)]) .loose), (11, .rom (encL cInt g.Species.Rise) .loose), (12, .rom (encL cInt g.Species.Thick) .loose), (13, .rom (encL cXRung g.Species.Ladder) .loose), (14, .rom (encL cXSpan g.Species.Sprouts) .loose)])) := by
  intro fk
  induction fk with
  | zero => exact fun _ _ _ r hh => by cases hh
  | succ fk ih =>
    · intro v8 v23 x1 r hh
      rw [growth_grower_shoots_L_s0] at hh
      rcases bb (decide (v23 < ((g.Species.Ladder.length : Nat) : Int))) with h1 | h1
      ·rw [h1, cT] at hh
       rcases bb (decide (0 ≤ v23 ∧ v23 < ((g.Species.Ladder.length : Nat) : Int))) with h2 | h2
       rotate_left
       ·rw [h2, cF] at hh; cases hh
       ·rw [h2, cT] at hh
        rcases bb (decide (((at_ zXRung g.Species.Ladder v23).Height) ≤ x1)) with h3 | h3
        ·rw [h3, cT] at hh
         have nx := ih (imin v8 ((at_ zXRung g.Species.Ladder v23).Shoots)) (W (v23 + 1)) x1 r hh
         refine FSat.s pfT 22 (hT :: hX :: (z40i0 g v23) :: (hR 5 (hT :: (hR 7 [])))) [.go, .st [6, 7, 8, 21, 22, 23] [0, 10, 11, 12, 13, 14]] (pc h1 <| pt (0 ≤ v23 ∧ v23 < ((g.Species.Ladder.length : Nat) : Int)) (of_decide_eq_true h2) <| pt (z40r1 g v23) (RowLd.elem cXRung_len _ (.inl ⟨_, rfl⟩) rfl rfl _ _ (of_decide_eq_true h2)) <| pc h3 <| pn) (by kernel_rfl) 100 (by kernel_rfl) ?_ nx
         exact ⟨PinL.lit (by kernel_rfl), PinL.lit (by kernel_rfl), PinL.pf (encL_pf cInt_pf _), PinL.pf (encL_pf cInt_pf _), PinL.pf (encL_pf cXRung_pf _), PinL.pf (encL_pf cXSpan_pf _), trivial⟩
        ·rw [h3, cF] at hh
         have nx := ih v8 (W (v23 + 1)) x1 r hh
         refine FSat.s pfT 22 (hT :: hX :: (z40i0 g v23) :: (hR 5 [hF, hE, hE])) [.go, .st [6, 7, 8, 21, 22, 23] [0, 10, 11, 12, 13, 14]] (pc h1 <| pt (0 ≤ v23 ∧ v23 < ((g.Species.Ladder.length : Nat) : Int)) (of_decide_eq_true h2) <| pt (z40r1 g v23) (RowLd.elem cXRung_len _ (.inl ⟨_, rfl⟩) rfl rfl _ _ (of_decide_eq_true h2)) <| pc h3 <| pn) (by kernel_rfl) 100 (by kernel_rfl) ?_ nx
         exact ⟨PinL.lit (by kernel_rfl), PinL.lit (by kernel_rfl), PinL.pf (encL_pf cInt_pf _), PinL.pf (encL_pf cInt_pf _), PinL.pf (encL_pf cXRung_pf _), PinL.pf (encL_pf cXSpan_pf _), trivial⟩
      ·rw [h1, cF] at hh
       rw [← sI hh]
       exact FSat.d pfT 14 [hF, hE, hE] [.go] (pc h1 <| pn) (by kernel_rfl) (by kernel_rfl)
theorem growth_grower_shoots_fc (fu : Nat) (g : Xgrower) (x_1 : XStand) (w : XWeather) (q11 q12 q13 q14 : Nat) (r : Int) (hh : growth_grower_shoots fu g x_1 w = some r) : FC P GG 97 (A_growth_grower_shoots x_1 w) (K_growth_grower_shoots g q11 q12 q13 q14) (I (r)) := by
  refine FC.of_fsat 37 100 Tryd.func97 (by kernel_rfl) (by kernel_rfl) (by kernel_rfl) ⟨PinL.pf (encL_pf cInt_pf _), PinL.pf (encL_pf cInt_pf _), PinL.pf (encL_pf cXRung_pf _), PinL.pf (encL_pf cXSpan_pf _), PinL.lit (by kernel_rfl), trivial⟩ ?_
  unfold growth_grower_shoots at hh
  cases h1 : growth_grower_height g x_1 w with
  | none => rw [h1, oN] at hh; cases hh
  | some x1 =>
   rw [h1, oS] at hh
   have nx := growth_grower_shoots_L_fs fu g x_1 w q11 q12 q13 q14 fu x_1.Shoots 0 x1 r hh
   refine FSat.s pfT 15 (hR 6 ((z40i2 g x_1 w q11 q12 q13 q14 x1) :: (hR 11 []))) [.st [6, 7, 8, 21, 22, 23] [0, 10, 11, 12, 13, 14]] (pc (growth_grower_height_fc g x_1 w q11 q12 q13 q14 x1 h1) <| pc (z40p3 x_1 w) <| pc (z40p4 g q11 q12 q13 q14) <| pt (z40r5 x1) (selfB_self 9 _ rfl _) <| pn) (by kernel_rfl) 100 (by kernel_rfl) ?_ nx
   exact ⟨PinL.lit (by kernel_rfl), PinL.lit (by kernel_rfl), PinL.pf (encL_pf cInt_pf _), PinL.pf (encL_pf cInt_pf _), PinL.pf (encL_pf cXRung_pf _), PinL.pf (encL_pf cXSpan_pf _), trivial⟩

/- (greenhew/growth.grower).girth -/
noncomputable abbrev z44i0 (g : Xgrower) (x_1 : XStand) (q12 : Nat) (x1 : Int) : Hint := (hM (I (x1)) (I (x1)) (A_growth_atAge g.Species.Thick x_1.Age q12) (K_growth_atAge g.Species.Thick) [(10, 12, 0)])
noncomputable abbrev z44i1 (g : Xgrower) (w : XWeather) (q11 q12 q13 q14 : Nat) (x1 x2 : Int) : Hint := (hM (I (x2)) (I (x2)) (A_growth_grower_inWeather x1 w) (K_growth_grower_inWeather g q11 q12 q13 q14) [(11, 11, 0), (12, 12, 0), (13, 13, 0), (14, 14, 0), (10, 10, 0)])
theorem z44p2 (g : Xgrower) (x_1 : XStand) (q12 : Nat) : VRs (Ren.emb [(10, 12, 0)]) (A_growth_atAge g.Species.Thick x_1.Age q12) [.slice (some ⟨12, 0, none⟩) (g.Species.Thick.length) (q12), I (x_1.Age)] := (.cons _ _ _ _ (.slc 10 0 _ _ _ ⟨12, 0, 0, 0⟩ rfl (.inl rfl)) (.cons _ _ _ _ (VR.of_pf rfl) .nil))
theorem z44p3 (w : XWeather) (x1 : Int) : VRs (Ren.emb [(11, 11, 0), (12, 12, 0), (13, 13, 0), (14, 14, 0), (10, 10, 0)]) (A_growth_grower_inWeather x1 w) [.pointer (some ⟨10, 0, none⟩), I (x1), .agg #[I (w.Light), I (w.Browse), I (w.Mild)]] := (.cons _ _ _ _ (.ptr 10 0 ⟨10, 0, 0, 0⟩ rfl) (.cons _ _ _ _ (VR.of_pf rfl) (.cons _ _ _ _ (VR.of_pf rfl) .nil)))
theorem z44p4 (g : Xgrower) (q11 q12 q13 q14 : Nat) : MemAt (Ren.emb [(11, 11, 0), (12, 12, 0), (13, 13, 0), (14, 14, 0), (10, 10, 0)]) (encL cInt g.Species.Rise) 0 (encL cInt g.Species.Rise) ∧ MemAt (Ren.emb [(11, 11, 0), (12, 12, 0), (13, 13, 0), (14, 14, 0), (10, 10, 0)]) (encL cInt g.Species.Thick) 0 (encL cInt g.Species.Thick) ∧ MemAt (Ren.emb [(11, 11, 0), (12, 12, 0), (13, 13, 0), (14, 14, 0), (10, 10, 0)]) (encL cXRung g.Species.Ladder) 0 (encL cXRung g.Species.Ladder) ∧ MemAt (Ren.emb [(11, 11, 0), (12, 12, 0), (13, 13, 0), (14, 14, 0), (10, 10, 0)]) (encL cXSpan g.Species.Sprouts) 0 (encL cXSpan g.Species.Sprouts) ∧ MemAt (Ren.emb [(11, 11, 0), (12, 12, 0), (13, 13, 0), (14, 14, 0), (10, 10, 0)]) [.slice (some ⟨11, 0, none⟩) (g.Species.Rise.length) (q11), .slice (some ⟨12, 0, none⟩) (g.Species.Thick.length) (q12), I (g.Species.Top), I (g.Species.Stout), I (g.Species.Shade), I (g.Species.Reach), .slice (some ⟨13, 0, none⟩) (g.Species.Ladder.length) (q13), .slice (some ⟨14, 0, none⟩) (g.Species.Sprouts.length) (q14)] 0 [.slice (some ⟨11, 0, none⟩) (g.Species.Rise.length) (q11), .slice (some ⟨12, 0, none⟩) (g.Species.Thick.length) (q12), I (g.Species.Top), I (g.Species.Stout), I (g.Species.Shade), I (g.Species.Reach), .slice (some ⟨13, 0, none⟩) (g.Species.Ladder.length) (q13), .slice (some ⟨14, 0, none⟩) (g.Species.Sprouts.length) (q14)] ∧ True := ⟨MemAt.same _ (encL_pf cInt_pf _), MemAt.same _ (encL_pf cInt_pf _), MemAt.same _ (encL_pf cXRung_pf _), MemAt.same _ (encL_pf cXSpan_pf _), MemAt.of (.cons _ _ _ _ (.slc 11 0 _ _ _ ⟨11, 0, 0, 0⟩ rfl (.inl rfl)) (.cons _ _ _ _ (.slc 12 0 _ _ _ ⟨12, 0, 0, 0⟩ rfl (.inl rfl)) (.cons _ _ _ _ (VR.of_pf rfl) (.cons _ _ _ _ (VR.of_pf rfl) (.cons _ _ _ _ (VR.of_pf rfl) (.cons _ _ _ _ (VR.of_pf rfl) (.cons _ _ _ _ (.slc 13 0 _ _ _ ⟨13, 0, 0, 0⟩ rfl (.inl rfl)) (.cons _ _ _ _ (.slc 14 0 _ _ _ ⟨14, 0, 0, 0⟩ rfl (.inl rfl)) .nil)))))))), trivial⟩
abbrev z44r5 (g : Xgrower) : Prop := MemAt (Ren.emb [(10, 12, 0)]) (encL cInt g.Species.Thick) 0 (encL cInt g.Species.Thick) ∧ True
abbrev z44r6 (x2 : Int) : Prop := VR (Ren.emb [(11, 11, 0), (12, 12, 0), (13, 13, 0), (14, 14, 0), (10, 10, 0)]) (I (x2)) (I (x2))
abbrev A_growth_grower_girth (x_1 : XStand) (w : XWeather) : List Value := [.pointer (some ⟨10, 0, none⟩), .agg #[I (x_1.Age), I (x_1.Shoots), I (x_1.Height), I (x_1.Girth)], .agg #[I (w.Light), I (w.Browse), I (w.Mild)]]
abbrev K_growth_grower_girth (g : Xgrower) (q11 q12 q13 q14 : Nat) : List (Nat × List Value) := [(11, encL cInt g.Species.Rise), (12, encL cInt g.Species.Thick), (13, encL cXRung g.Species.Ladder), (14, encL cXSpan g.Species.Sprouts), (10, [.slice (some ⟨11, 0, none⟩) (g.Species.Rise.length) (q11), .slice (some ⟨12, 0, none⟩) (g.Species.Thick.length) (q12), I (g.Species.Top), I (g.Species.Stout), I (g.Species.Shade), I (g.Species.Reach), .slice (some ⟨13, 0, none⟩) (g.Species.Ladder.length) (q13), .slice (some ⟨14, 0, none⟩) (g.Species.Sprouts.length) (q14)])]
noncomputable def growth_grower_girth (g : Xgrower) (x_1 : XStand) (w : XWeather) : Option Int :=
  Option.bind (growth_atAge g.Species.Thick x_1.Age) fun x1 =>
  Option.bind (growth_grower_inWeather g x1 w) fun x2 =>
  bif decide ((W (100 + x_1.Shoots)) ≠ 0) then some (imin (W (x_1.Girth + (W ((W (x2 * 100)).tdiv (W (100 + x_1.Shoots)))))) g.Species.Stout) else none
theorem growth_grower_girth_fc (g : Xgrower) (x_1 : XStand) (w : XWeather) (q11 q12 q13 q14 : Nat) (r : Int) (hh : growth_grower_girth g x_1 w = some r) : FC P GG 99 (A_growth_grower_girth x_1 w) (K_growth_grower_girth g q11 q12 q13 q14) (I (r)) := by
  refine FC.of_fsat 34 100 Tryd.func99 (by kernel_rfl) (by kernel_rfl) (by kernel_rfl) ⟨PinL.pf (encL_pf cInt_pf _), PinL.pf (encL_pf cInt_pf _), PinL.pf (encL_pf cXRung_pf _), PinL.pf (encL_pf cXSpan_pf _), PinL.lit (by kernel_rfl), trivial⟩ ?_
  unfold growth_grower_girth at hh
  cases h1 : growth_atAge g.Species.Thick x_1.Age with
  | none => rw [h1, oN] at hh; cases hh
  | some x1 =>
   rw [h1, oS] at hh
   cases h2 : growth_grower_inWeather g x1 w with
   | none => rw [h2, oN] at hh; cases hh
   | some x2 =>
    rw [h2, oS] at hh
    rcases bb (decide ((W (100 + x_1.Shoots)) ≠ 0)) with h3 | h3
    rotate_left
    ·rw [h3, cF] at hh; cases hh
    ·rw [h3, cT] at hh
     rw [← sI hh]
     exact FSat.d pfT 12 (hR 11 ((z44i0 g x_1 q12 x1) :: hE :: (z44i1 g w q11 q12 q13 q14 x1 x2) :: (hR 8 (hD :: (hR 8 []))))) [] (pc (growth_atAge_fc g.Species.Thick x_1.Age q12 x1 h1) <| pc (z44p2 g x_1 q12) <| pt (z44r5 g) (⟨MemAt.same _ (encL_pf cInt_pf _), trivial⟩) <| pt (VR (Ren.emb [(10, 12, 0)]) (I (x1)) (I (x1))) (selfB_self 9 _ rfl _) <| pc (growth_grower_inWeather_fc g x1 w q11 q12 q13 q14 x2 h2) <| pc (z44p3 w x1) <| pc (z44p4 g q11 q12 q13 q14) <| pt (z44r6 x2) (selfB_self 9 _ rfl _) <| pt ((W (100 + x_1.Shoots)) ≠ 0) (of_decide_eq_true h3) <| pn) (by kernel_rfl) (by kernel_rfl)

/- (greenhew/growth.grower).grow -/
noncomputable abbrev z39i0 (x_1 : XStand) : Hint := (hM (.pointer (some ⟨10, 1, none⟩)) (.pointer (some ⟨104, 1, none⟩)) (A_growth_number 1) (K_growth_number (⟨imin (W (x_1.Age + 1)) 100000, 0, 0, 0⟩ : XStand)) [(10, 104, 0)])
noncomputable abbrev z39i1 (g : Xgrower) (x_1 : XStand) (w : XWeather) (q11 q12 q13 q14 : Nat) (x1 : Int) : Hint := (hM (I (x1)) (I (x1)) (A_growth_grower_shoots x_1 w) (K_growth_grower_shoots g q11 q12 q13 q14) [(11, 11, 0), (12, 12, 0), (13, 13, 0), (14, 14, 0), (10, 10, 0)])
noncomputable abbrev z39i2 (x_1 : XStand) (x1 : Int) : Hint := (hM (.pointer (some ⟨10, 2, none⟩)) (.pointer (some ⟨104, 2, none⟩)) (A_growth_number 2) (K_growth_number (⟨imin (W (x_1.Age + 1)) 100000, x1, 0, 0⟩ : XStand)) [(10, 104, 0)])
noncomputable abbrev z39i3 (g : Xgrower) (x_1 : XStand) (w : XWeather) (q11 q12 q13 q14 : Nat) (x2 : Int) : Hint := (hM (I (x2)) (I (x2)) (A_growth_grower_height x_1 w) (K_growth_grower_height g q11 q12 q13 q14) [(11, 11, 0), (12, 12, 0), (13, 13, 0), (14, 14, 0), (10, 10, 0)])
noncomputable abbrev z39i4 (x_1 : XStand) (x1 x2 : Int) : Hint := (hM (.pointer (some ⟨10, 3, none⟩)) (.pointer (some ⟨104, 3, none⟩)) (A_growth_number 3) (K_growth_number (⟨imin (W (x_1.Age + 1)) 100000, x1, x2, 0⟩ : XStand)) [(10, 104, 0)])
noncomputable abbrev z39i5 (g : Xgrower) (x_1 : XStand) (w : XWeather) (q11 q12 q13 q14 : Nat) (x3 : Int) : Hint := (hM (I (x3)) (I (x3)) (A_growth_grower_girth x_1 w) (K_growth_grower_girth g q11 q12 q13 q14) [(11, 11, 0), (12, 12, 0), (13, 13, 0), (14, 14, 0), (10, 10, 0)])
theorem z39p6 (x_1 : XStand) : FC P GG 100 (A_growth_number 1) (K_growth_number (⟨imin (W (x_1.Age + 1)) 100000, 0, 0, 0⟩ : XStand)) (.pointer (some ⟨10, 1, none⟩)) := growth_number_fc_1 (⟨imin (W (x_1.Age + 1)) 100000, 0, 0, 0⟩ : XStand) 1 rfl
theorem z39p7 : VRs (Ren.emb [(10, 104, 0)]) (A_growth_number 1) [.pointer (some ⟨104, 0, none⟩), I (1)] := (.cons _ _ _ _ (.ptr 10 0 ⟨104, 0, 0, 0⟩ rfl) (.cons _ _ _ _ (VR.of_pf rfl) .nil))
theorem z39p8 (x_1 : XStand) : MemAt (Ren.emb [(10, 104, 0)]) [I ((⟨imin (W (x_1.Age + 1)) 100000, 0, 0, 0⟩ : XStand).Age), I ((⟨imin (W (x_1.Age + 1)) 100000, 0, 0, 0⟩ : XStand).Shoots), I ((⟨imin (W (x_1.Age + 1)) 100000, 0, 0, 0⟩ : XStand).Height), I ((⟨imin (W (x_1.Age + 1)) 100000, 0, 0, 0⟩ : XStand).Girth)] 0 [I (imin (W (x_1.Age + 1)) 100000), I (0), I (0), I (0)] ∧ True := ⟨MemAt.of (.cons _ _ _ _ (VR.of_pf rfl) (.cons _ _ _ _ (VR.of_pf rfl) (.cons _ _ _ _ (VR.of_pf rfl) (.cons _ _ _ _ (VR.of_pf rfl) .nil)))), trivial⟩
theorem z39p9 (x_1 : XStand) (w : XWeather) : VRs (Ren.emb [(11, 11, 0), (12, 12, 0), (13, 13, 0), (14, 14, 0), (10, 10, 0)]) (A_growth_grower_shoots x_1 w) [.pointer (some ⟨10, 0, none⟩), .agg #[I (x_1.Age), I (x_1.Shoots), I (x_1.Height), I (x_1.Girth)], .agg #[I (w.Light), I (w.Browse), I (w.Mild)]] := (.cons _ _ _ _ (.ptr 10 0 ⟨10, 0, 0, 0⟩ rfl) (.cons _ _ _ _ (VR.of_pf rfl) (.cons _ _ _ _ (VR.of_pf rfl) .nil)))
theorem z39p10 (g : Xgrower) (q11 q12 q13 q14 : Nat) : MemAt (Ren.emb [(11, 11, 0), (12, 12, 0), (13, 13, 0), (14, 14, 0), (10, 10, 0)]) (encL cInt g.Species.Rise) 0 (encL cInt g.Species.Rise) ∧ MemAt (Ren.emb [(11, 11, 0), (12, 12, 0), (13, 13, 0), (14, 14, 0), (10, 10, 0)]) (encL cInt g.Species.Thick) 0 (encL cInt g.Species.Thick) ∧ MemAt (Ren.emb [(11, 11, 0), (12, 12, 0), (13, 13, 0), (14, 14, 0), (10, 10, 0)]) (encL cXRung g.Species.Ladder) 0 (encL cXRung g.Species.Ladder) ∧ MemAt (Ren.emb [(11, 11, 0), (12, 12, 0), (13, 13, 0), (14, 14, 0), (10, 10, 0)]) (encL cXSpan g.Species.Sprouts) 0 (encL cXSpan g.Species.Sprouts) ∧ MemAt (Ren.emb [(11, 11, 0), (12, 12, 0), (13, 13, 0), (14, 14, 0), (10, 10, 0)]) [.slice (some ⟨11, 0, none⟩) (g.Species.Rise.length) (q11), .slice (some ⟨12, 0, none⟩) (g.Species.Thick.length) (q12), I (g.Species.Top), I (g.Species.Stout), I (g.Species.Shade), I (g.Species.Reach), .slice (some ⟨13, 0, none⟩) (g.Species.Ladder.length) (q13), .slice (some ⟨14, 0, none⟩) (g.Species.Sprouts.length) (q14)] 0 [.slice (some ⟨11, 0, none⟩) (g.Species.Rise.length) (q11), .slice (some ⟨12, 0, none⟩) (g.Species.Thick.length) (q12), I (g.Species.Top), I (g.Species.Stout), I (g.Species.Shade), I (g.Species.Reach), .slice (some ⟨13, 0, none⟩) (g.Species.Ladder.length) (q13), .slice (some ⟨14, 0, none⟩) (g.Species.Sprouts.length) (q14)] ∧ True := ⟨MemAt.same _ (encL_pf cInt_pf _), MemAt.same _ (encL_pf cInt_pf _), MemAt.same _ (encL_pf cXRung_pf _), MemAt.same _ (encL_pf cXSpan_pf _), MemAt.of (.cons _ _ _ _ (.slc 11 0 _ _ _ ⟨11, 0, 0, 0⟩ rfl (.inl rfl)) (.cons _ _ _ _ (.slc 12 0 _ _ _ ⟨12, 0, 0, 0⟩ rfl (.inl rfl)) (.cons _ _ _ _ (VR.of_pf rfl) (.cons _ _ _ _ (VR.of_pf rfl) (.cons _ _ _ _ (VR.of_pf rfl) (.cons _ _ _ _ (VR.of_pf rfl) (.cons _ _ _ _ (.slc 13 0 _ _ _ ⟨13, 0, 0, 0⟩ rfl (.inl rfl)) (.cons _ _ _ _ (.slc 14 0 _ _ _ ⟨14, 0, 0, 0⟩ rfl (.inl rfl)) .nil)))))))), trivial⟩
theorem z39p11 (x_1 : XStand) (x1 : Int) : FC P GG 100 (A_growth_number 2) (K_growth_number (⟨imin (W (x_1.Age + 1)) 100000, x1, 0, 0⟩ : XStand)) (.pointer (some ⟨10, 2, none⟩)) := growth_number_fc_2 (⟨imin (W (x_1.Age + 1)) 100000, x1, 0, 0⟩ : XStand) 2 rfl rfl
theorem z39p12 : VRs (Ren.emb [(10, 104, 0)]) (A_growth_number 2) [.pointer (some ⟨104, 0, none⟩), I (2)] := (.cons _ _ _ _ (.ptr 10 0 ⟨104, 0, 0, 0⟩ rfl) (.cons _ _ _ _ (VR.of_pf rfl) .nil))
theorem z39p13 (x_1 : XStand) (x1 : Int) : MemAt (Ren.emb [(10, 104, 0)]) [I ((⟨imin (W (x_1.Age + 1)) 100000, x1, 0, 0⟩ : XStand).Age), I ((⟨imin (W (x_1.Age + 1)) 100000, x1, 0, 0⟩ : XStand).Shoots), I ((⟨imin (W (x_1.Age + 1)) 100000, x1, 0, 0⟩ : XStand).Height), I ((⟨imin (W (x_1.Age + 1)) 100000, x1, 0, 0⟩ : XStand).Girth)] 0 [I (imin (W (x_1.Age + 1)) 100000), I (x1), I (0), I (0)] ∧ True := ⟨MemAt.of (.cons _ _ _ _ (VR.of_pf rfl) (.cons _ _ _ _ (VR.of_pf rfl) (.cons _ _ _ _ (VR.of_pf rfl) (.cons _ _ _ _ (VR.of_pf rfl) .nil)))), trivial⟩
theorem z39p14 (x_1 : XStand) (w : XWeather) : VRs (Ren.emb [(11, 11, 0), (12, 12, 0), (13, 13, 0), (14, 14, 0), (10, 10, 0)]) (A_growth_grower_height x_1 w) [.pointer (some ⟨10, 0, none⟩), .agg #[I (x_1.Age), I (x_1.Shoots), I (x_1.Height), I (x_1.Girth)], .agg #[I (w.Light), I (w.Browse), I (w.Mild)]] := (.cons _ _ _ _ (.ptr 10 0 ⟨10, 0, 0, 0⟩ rfl) (.cons _ _ _ _ (VR.of_pf rfl) (.cons _ _ _ _ (VR.of_pf rfl) .nil)))
theorem z39p15 (x_1 : XStand) (x1 x2 : Int) : FC P GG 100 (A_growth_number 3) (K_growth_number (⟨imin (W (x_1.Age + 1)) 100000, x1, x2, 0⟩ : XStand)) (.pointer (some ⟨10, 3, none⟩)) := growth_number_fc_3 (⟨imin (W (x_1.Age + 1)) 100000, x1, x2, 0⟩ : XStand) 3 rfl rfl
theorem z39p16 : VRs (Ren.emb [(10, 104, 0)]) (A_growth_number 3) [.pointer (some ⟨104, 0, none⟩), I (3)] := (.cons _ _ _ _ (.ptr 10 0 ⟨104, 0, 0, 0⟩ rfl) (.cons _ _ _ _ (VR.of_pf rfl) .nil))
theorem z39p17 (x_1 : XStand) (x1 x2 : Int) : MemAt (Ren.emb [(10, 104, 0)]) [I ((⟨imin (W (x_1.Age + 1)) 100000, x1, x2, 0⟩ : XStand).Age), I ((⟨imin (W (x_1.Age + 1)) 100000, x1, x2, 0⟩ : XStand).Shoots), I ((⟨imin (W (x_1.Age + 1)) 100000, x1, x2, 0⟩ : XStand).Height), I ((⟨imin (W (x_1.Age + 1)) 100000, x1, x2, 0⟩ : XStand).Girth)] 0 [I (imin (W (x_1.Age + 1)) 100000), I (x1), I (x2), I (0)] ∧ True := ⟨MemAt.of (.cons _ _ _ _ (VR.of_pf rfl) (.cons _ _ _ _ (VR.of_pf rfl) (.cons _ _ _ _ (VR.of_pf rfl) (.cons _ _ _ _ (VR.of_pf rfl) .nil)))), trivial⟩
theorem z39p18 (x_1 : XStand) (w : XWeather) : VRs (Ren.emb [(11, 11, 0), (12, 12, 0), (13, 13, 0), (14, 14, 0), (10, 10, 0)]) (A_growth_grower_girth x_1 w) [.pointer (some ⟨10, 0, none⟩), .agg #[I (x_1.Age), I (x_1.Shoots), I (x_1.Height), I (x_1.Girth)], .agg #[I (w.Light), I (w.Browse), I (w.Mild)]] := (.cons _ _ _ _ (.ptr 10 0 ⟨10, 0, 0, 0⟩ rfl) (.cons _ _ _ _ (VR.of_pf rfl) (.cons _ _ _ _ (VR.of_pf rfl) .nil)))
abbrev z39r19 : Prop := VR (Ren.emb [(10, 104, 0)]) (.pointer (some ⟨10, 1, none⟩)) (.pointer (some ⟨104, 1, none⟩))
abbrev z39r20 (x1 : Int) : Prop := VR (Ren.emb [(11, 11, 0), (12, 12, 0), (13, 13, 0), (14, 14, 0), (10, 10, 0)]) (I (x1)) (I (x1))
abbrev z39r21 : Prop := VR (Ren.emb [(10, 104, 0)]) (.pointer (some ⟨10, 2, none⟩)) (.pointer (some ⟨104, 2, none⟩))
abbrev z39r22 (x2 : Int) : Prop := VR (Ren.emb [(11, 11, 0), (12, 12, 0), (13, 13, 0), (14, 14, 0), (10, 10, 0)]) (I (x2)) (I (x2))
abbrev z39r23 : Prop := VR (Ren.emb [(10, 104, 0)]) (.pointer (some ⟨10, 3, none⟩)) (.pointer (some ⟨104, 3, none⟩))
abbrev z39r24 (x3 : Int) : Prop := VR (Ren.emb [(11, 11, 0), (12, 12, 0), (13, 13, 0), (14, 14, 0), (10, 10, 0)]) (I (x3)) (I (x3))
abbrev A_growth_grower_grow (x_1 : XStand) (w : XWeather) : List Value := [.pointer (some ⟨10, 0, none⟩), .agg #[I (x_1.Age), I (x_1.Shoots), I (x_1.Height), I (x_1.Girth)], .agg #[I (w.Light), I (w.Browse), I (w.Mild)]]
abbrev K_growth_grower_grow (g : Xgrower) (q11 q12 q13 q14 : Nat) : List (Nat × List Value) := [(11, encL cInt g.Species.Rise), (12, encL cInt g.Species.Thick), (13, encL cXRung g.Species.Ladder), (14, encL cXSpan g.Species.Sprouts), (10, [.slice (some ⟨11, 0, none⟩) (g.Species.Rise.length) (q11), .slice (some ⟨12, 0, none⟩) (g.Species.Thick.length) (q12), I (g.Species.Top), I (g.Species.Stout), I (g.Species.Shade), I (g.Species.Reach), .slice (some ⟨13, 0, none⟩) (g.Species.Ladder.length) (q13), .slice (some ⟨14, 0, none⟩) (g.Species.Sprouts.length) (q14)])]
noncomputable def growth_grower_grow (fu : Nat) (g : Xgrower) (x_1 : XStand) (w : XWeather) : Option XStand :=
  Option.bind (growth_grower_shoots fu g x_1 w) fun x1 =>
  Option.bind (growth_grower_height g x_1 w) fun x2 =>
  Option.bind (growth_grower_girth g x_1 w) fun x3 =>
  some (⟨imin (W (x_1.Age + 1)) 100000, x1, x2, x3⟩ : XStand)
theorem growth_grower_grow_fc (fu : Nat) (g : Xgrower) (x_1 : XStand) (w : XWeather) (q11 q12 q13 q14 : Nat) (r : XStand) (hh : growth_grower_grow fu g x_1 w = some r) : FC P GG 60 (A_growth_grower_grow x_1 w) (K_growth_grower_grow g q11 q12 q13 q14) (.agg #[I (r.Age), I (r.Shoots), I (r.Height), I (r.Girth)]) := by
  refine FC.of_fsat 38 100 Tryd.func60 (by kernel_rfl) (by kernel_rfl) (by kernel_rfl) ⟨PinL.pf (encL_pf cInt_pf _), PinL.pf (encL_pf cInt_pf _), PinL.pf (encL_pf cXRung_pf _), PinL.pf (encL_pf cXSpan_pf _), PinL.lit (by kernel_rfl), trivial⟩ ?_
  unfold growth_grower_grow at hh
  cases h1 : growth_grower_shoots fu g x_1 w with
  | none => rw [h1, oN] at hh; cases hh
  | some x1 =>
   rw [h1, oS] at hh
   cases h2 : growth_grower_height g x_1 w with
   | none => rw [h2, oN] at hh; cases hh
   | some x2 =>
    rw [h2, oS] at hh
    cases h3 : growth_grower_girth g x_1 w with
    | none => rw [h3, oN] at hh; cases hh
    | some x3 =>
     rw [h3, oS] at hh
     rw [← sI hh]
     exact FSat.d pfT 64 (hR 25 ((z39i0 x_1) :: (hR 5 ((z39i1 g x_1 w q11 q12 q13 q14 x1) :: (hR 8 ((z39i2 x_1 x1) :: (hR 5 ((z39i3 g x_1 w q11 q12 q13 q14 x2) :: (hR 8 ((z39i4 x_1 x1 x2) :: (hR 5 ((z39i5 g x_1 w q11 q12 q13 q14 x3) :: (hR 7 []))))))))))))) [.go, .go, .go, .go] (pc (z39p6 x_1) <| pc z39p7 <| pc (z39p8 x_1) <| pt z39r19 (.ptr 10 1 ⟨104, 0, 0, 0⟩ rfl) <| pc (growth_grower_shoots_fc fu g x_1 w q11 q12 q13 q14 x1 h1) <| pc (z39p9 x_1 w) <| pc (z39p10 g q11 q12 q13 q14) <| pt (z39r20 x1) (selfB_self 9 _ rfl _) <| pc (z39p11 x_1 x1) <| pc z39p12 <| pc (z39p13 x_1 x1) <| pt z39r21 (.ptr 10 2 ⟨104, 0, 0, 0⟩ rfl) <| pc (growth_grower_height_fc g x_1 w q11 q12 q13 q14 x2 h2) <| pc (z39p14 x_1 w) <| pc (z39p10 g q11 q12 q13 q14) <| pt (z39r22 x2) (selfB_self 9 _ rfl _) <| pc (z39p15 x_1 x1 x2) <| pc z39p16 <| pc (z39p17 x_1 x1 x2) <| pt z39r23 (.ptr 10 3 ⟨104, 0, 0, 0⟩ rfl) <| pc (growth_grower_girth_fc g x_1 w q11 q12 q13 q14 x3 h3) <| pc (z39p18 x_1 w) <| pc (z39p10 g q11 q12 q13 q14) <| pt (z39r24 x3) (selfB_self 9 _ rfl _) <| pn) (by kernel_rfl) (by kernel_rfl)

/- greenhew/growth.Grow -/
noncomputable abbrev z28i0 (s : XSpecies) (q10 q11 q12 q13 : Nat) (x1 : Bool) : Hint := (hB (hM (.bool (x1)) (.bool (x1)) (A_growth_speciesIsDefined s q10 q11 q12 q13) (K_growth_speciesIsDefined s) [(10, 10, 0), (11, 11, 0), (12, 12, 0), (13, 13, 0)]) true)
noncomputable abbrev z28i1 (s : XSpecies) (x_1 : XStand) (w : XWeather) (q10 q11 q12 q13 : Nat) (x2 : XStand) : Hint := (hM (.agg #[I (x2.Age), I (x2.Shoots), I (x2.Height), I (x2.Girth)]) (.agg #[I (x2.Age), I (x2.Shoots), I (x2.Height), I (x2.Girth)]) (A_growth_grower_grow x_1 w) (K_growth_grower_grow (⟨s⟩ : Xgrower) q10 q11 q12 q13) [(11, 10, 0), (12, 11, 0), (13, 12, 0), (14, 13, 0), (10, 104, 0)])
theorem z28p2 (s : XSpecies) (q10 q11 q12 q13 : Nat) : VRs (Ren.emb [(10, 10, 0), (11, 11, 0), (12, 12, 0), (13, 13, 0)]) (A_growth_speciesIsDefined s q10 q11 q12 q13) [.agg #[.slice (some ⟨10, 0, none⟩) (s.Rise.length) (q10), .slice (some ⟨11, 0, none⟩) (s.Thick.length) (q11), I (s.Top), I (s.Stout), I (s.Shade), I (s.Reach), .slice (some ⟨12, 0, none⟩) (s.Ladder.length) (q12), .slice (some ⟨13, 0, none⟩) (s.Sprouts.length) (q13)]] := (.cons _ _ _ _ (.agg _ _ (.cons _ _ _ _ (.slc 10 0 _ _ _ ⟨10, 0, 0, 0⟩ rfl (.inl rfl)) (.cons _ _ _ _ (.slc 11 0 _ _ _ ⟨11, 0, 0, 0⟩ rfl (.inl rfl)) (.cons _ _ _ _ (VR.of_pf rfl) (.cons _ _ _ _ (VR.of_pf rfl) (.cons _ _ _ _ (VR.of_pf rfl) (.cons _ _ _ _ (VR.of_pf rfl) (.cons _ _ _ _ (.slc 12 0 _ _ _ ⟨12, 0, 0, 0⟩ rfl (.inl rfl)) (.cons _ _ _ _ (.slc 13 0 _ _ _ ⟨13, 0, 0, 0⟩ rfl (.inl rfl)) .nil))))))))) .nil)
theorem z28p3 (s : XSpecies) : MemAt (Ren.emb [(10, 10, 0), (11, 11, 0), (12, 12, 0), (13, 13, 0)]) (encL cInt s.Rise) 0 (encL cInt s.Rise) ∧ MemAt (Ren.emb [(10, 10, 0), (11, 11, 0), (12, 12, 0), (13, 13, 0)]) (encL cInt s.Thick) 0 (encL cInt s.Thick) ∧ MemAt (Ren.emb [(10, 10, 0), (11, 11, 0), (12, 12, 0), (13, 13, 0)]) (encL cXRung s.Ladder) 0 (encL cXRung s.Ladder) ∧ MemAt (Ren.emb [(10, 10, 0), (11, 11, 0), (12, 12, 0), (13, 13, 0)]) (encL cXSpan s.Sprouts) 0 (encL cXSpan s.Sprouts) ∧ True := ⟨MemAt.same _ (encL_pf cInt_pf _), MemAt.same _ (encL_pf cInt_pf _), MemAt.same _ (encL_pf cXRung_pf _), MemAt.same _ (encL_pf cXSpan_pf _), trivial⟩
theorem z28p4 (x_1 : XStand) (w : XWeather) : VRs (Ren.emb [(11, 10, 0), (12, 11, 0), (13, 12, 0), (14, 13, 0), (10, 104, 0)]) (A_growth_grower_grow x_1 w) [.pointer (some ⟨104, 0, none⟩), .agg #[I (x_1.Age), I (x_1.Shoots), I (x_1.Height), I (x_1.Girth)], .agg #[I (w.Light), I (w.Browse), I (w.Mild)]] := (.cons _ _ _ _ (.ptr 10 0 ⟨104, 0, 0, 0⟩ rfl) (.cons _ _ _ _ (VR.of_pf rfl) (.cons _ _ _ _ (VR.of_pf rfl) .nil)))
theorem z28p5 (s : XSpecies) (q10 q11 q12 q13 : Nat) : MemAt (Ren.emb [(11, 10, 0), (12, 11, 0), (13, 12, 0), (14, 13, 0), (10, 104, 0)]) (encL cInt (((⟨s⟩ : Xgrower).Species).Rise)) 0 (encL cInt s.Rise) ∧ MemAt (Ren.emb [(11, 10, 0), (12, 11, 0), (13, 12, 0), (14, 13, 0), (10, 104, 0)]) (encL cInt (((⟨s⟩ : Xgrower).Species).Thick)) 0 (encL cInt s.Thick) ∧ MemAt (Ren.emb [(11, 10, 0), (12, 11, 0), (13, 12, 0), (14, 13, 0), (10, 104, 0)]) (encL cXRung (((⟨s⟩ : Xgrower).Species).Ladder)) 0 (encL cXRung s.Ladder) ∧ MemAt (Ren.emb [(11, 10, 0), (12, 11, 0), (13, 12, 0), (14, 13, 0), (10, 104, 0)]) (encL cXSpan (((⟨s⟩ : Xgrower).Species).Sprouts)) 0 (encL cXSpan s.Sprouts) ∧ MemAt (Ren.emb [(11, 10, 0), (12, 11, 0), (13, 12, 0), (14, 13, 0), (10, 104, 0)]) [.slice (some ⟨11, 0, none⟩) ((((⟨s⟩ : Xgrower).Species).Rise).length) (q10), .slice (some ⟨12, 0, none⟩) ((((⟨s⟩ : Xgrower).Species).Thick).length) (q11), I (((⟨s⟩ : Xgrower).Species).Top), I (((⟨s⟩ : Xgrower).Species).Stout), I (((⟨s⟩ : Xgrower).Species).Shade), I (((⟨s⟩ : Xgrower).Species).Reach), .slice (some ⟨13, 0, none⟩) ((((⟨s⟩ : Xgrower).Species).Ladder).length) (q12), .slice (some ⟨14, 0, none⟩) ((((⟨s⟩ : Xgrower).Species).Sprouts).length) (q13)] 0 [.slice (some ⟨10, 0, none⟩) (s.Rise.length) (q10), .slice (some ⟨11, 0, none⟩) (s.Thick.length) (q11), I (s.Top), I (s.Stout), I (s.Shade), I (s.Reach), .slice (some ⟨12, 0, none⟩) (s.Ladder.length) (q12), .slice (some ⟨13, 0, none⟩) (s.Sprouts.length) (q13)] ∧ True := ⟨MemAt.same _ (encL_pf cInt_pf _), MemAt.same _ (encL_pf cInt_pf _), MemAt.same _ (encL_pf cXRung_pf _), MemAt.same _ (encL_pf cXSpan_pf _), MemAt.of (.cons _ _ _ _ (.slc 11 0 _ _ _ ⟨10, 0, 0, 0⟩ rfl (.inl rfl)) (.cons _ _ _ _ (.slc 12 0 _ _ _ ⟨11, 0, 0, 0⟩ rfl (.inl rfl)) (.cons _ _ _ _ (VR.of_pf rfl) (.cons _ _ _ _ (VR.of_pf rfl) (.cons _ _ _ _ (VR.of_pf rfl) (.cons _ _ _ _ (VR.of_pf rfl) (.cons _ _ _ _ (.slc 13 0 _ _ _ ⟨12, 0, 0, 0⟩ rfl (.inl rfl)) (.cons _ _ _ _ (.slc 14 0 _ _ _ ⟨13, 0, 0, 0⟩ rfl (.inl rfl)) .nil)))))))), trivial⟩
abbrev z28r6 (x1 : Bool) : Prop := VR (Ren.emb [(10, 10, 0), (11, 11, 0), (12, 12, 0), (13, 13, 0)]) (.bool (x1)) (.bool (x1))
abbrev z28r7 (x2 : XStand) : Prop := VR (Ren.emb [(11, 10, 0), (12, 11, 0), (13, 12, 0), (14, 13, 0), (10, 104, 0)]) (.agg #[I (x2.Age), I (x2.Shoots), I (x2.Height), I (x2.Girth)]) (.agg #[I (x2.Age), I (x2.Shoots), I (x2.Height), I (x2.Girth)])
noncomputable abbrev z28i8 (s : XSpecies) (q10 q11 q12 q13 : Nat) (x1 : Bool) : Hint := (hB (hM (.bool (x1)) (.bool (x1)) (A_growth_speciesIsDefined s q10 q11 q12 q13) (K_growth_speciesIsDefined s) [(10, 10, 0), (11, 11, 0), (12, 12, 0), (13, 13, 0)]) false)
abbrev A_growth_Grow (s : XSpecies) (x_1 : XStand) (w : XWeather) (q10 q11 q12 q13 : Nat) : List Value := [.agg #[.slice (some ⟨10, 0, none⟩) (s.Rise.length) (q10), .slice (some ⟨11, 0, none⟩) (s.Thick.length) (q11), I (s.Top), I (s.Stout), I (s.Shade), I (s.Reach), .slice (some ⟨12, 0, none⟩) (s.Ladder.length) (q12), .slice (some ⟨13, 0, none⟩) (s.Sprouts.length) (q13)], .agg #[I (x_1.Age), I (x_1.Shoots), I (x_1.Height), I (x_1.Girth)], .agg #[I (w.Light), I (w.Browse), I (w.Mild)]]
abbrev K_growth_Grow (s : XSpecies) : List (Nat × List Value) := [(10, encL cInt s.Rise), (11, encL cInt s.Thick), (12, encL cXRung s.Ladder), (13, encL cXSpan s.Sprouts)]
noncomputable def growth_Grow (fu : Nat) (s : XSpecies) (x_1 : XStand) (w : XWeather) : Option (XStand × Int) :=
  Option.bind (growth_speciesIsDefined fu s) fun x1 =>
  bif x1 then (bif growth_standIsDefined x_1 then (bif growth_weatherIsDefined w then (Option.bind (growth_grower_grow fu (⟨s⟩ : Xgrower) x_1 w) fun x2 =>
        some (x2, 0))
      else some ((⟨0, 0, 0, 0⟩ : XStand), 2))
    else some ((⟨0, 0, 0, 0⟩ : XStand), 2))
  else some ((⟨0, 0, 0, 0⟩ : XStand), 2)
theorem growth_Grow_fc (fu : Nat) (s : XSpecies) (x_1 : XStand) (w : XWeather) (q10 q11 q12 q13 : Nat) (r : XStand × Int) (hh : growth_Grow fu s x_1 w = some r) : FC P GG 19 (A_growth_Grow s x_1 w q10 q11 q12 q13) (K_growth_Grow s) (.tuple #[.agg #[I (r.1.Age), I (r.1.Shoots), I (r.1.Height), I (r.1.Girth)], I (r.2)]) := by
  refine FC.of_fsat 28 100 Tryd.func19 (by kernel_rfl) (by kernel_rfl) (by kernel_rfl) ⟨PinL.pf (encL_pf cInt_pf _), PinL.pf (encL_pf cInt_pf _), PinL.pf (encL_pf cXRung_pf _), PinL.pf (encL_pf cXSpan_pf _), trivial⟩ ?_
  unfold growth_Grow at hh
  cases h1 : growth_speciesIsDefined fu s with
  | none => rw [h1, oN] at hh; cases hh
  | some x1 =>
   rw [h1, oS] at hh
   rcases bb (x1) with h2 | h2
   ·rw [h2, cT] at hh
    rcases bb (growth_standIsDefined x_1) with h3 | h3
    ·rw [h3, cT] at hh
     rcases bb (growth_weatherIsDefined w) with h4 | h4
     ·rw [h4, cT] at hh
      cases h5 : growth_grower_grow fu (⟨s⟩ : Xgrower) x_1 w with
      | none => rw [h5, oN] at hh; cases hh
      | some x2 =>
       rw [h5, oS] at hh
       rw [← sI hh]
       exact FSat.d pfT 17 (hR 6 ((z28i0 s q10 q11 q12 q13 x1) :: hE :: hE :: hE :: (hB (hC (.bool (growth_standIsDefined x_1))) true) :: (hR 4 ((hB (hC (.bool (growth_weatherIsDefined w))) true) :: (hR 8 [(z28i1 s x_1 w q10 q11 q12 q13 x2), hE, hE]))))) [] (pc (growth_speciesIsDefined_fc fu s q10 q11 q12 q13 x1 h1) <| pc (z28p2 s q10 q11 q12 q13) <| pc (z28p3 s) <| pt (z28r6 x1) (selfB_self 9 _ rfl _) <| pc h2 <| pc (growth_standIsDefined_fc x_1) <| pc h3 <| pc (growth_weatherIsDefined_fc w) <| pc h4 <| pc (growth_grower_grow_fc fu (⟨s⟩ : Xgrower) x_1 w q10 q11 q12 q13 x2 h5) <| pc (z28p4 x_1 w) <| pc (z28p5 s q10 q11 q12 q13) <| pt (z28r7 x2) (selfB_self 9 _ rfl _) <| pn) (by kernel_rfl) (by kernel_rfl)
     ·rw [h4, cF] at hh
      rw [← sI hh]
      exact FSat.d pfT 14 (hR 6 ((z28i0 s q10 q11 q12 q13 x1) :: hE :: hE :: hE :: (hB (hC (.bool (growth_standIsDefined x_1))) true) :: (hR 4 ((hB (hC (.bool (growth_weatherIsDefined w))) false) :: (hR 5 []))))) [] (pc (growth_speciesIsDefined_fc fu s q10 q11 q12 q13 x1 h1) <| pc (z28p2 s q10 q11 q12 q13) <| pc (z28p3 s) <| pt (z28r6 x1) (selfB_self 9 _ rfl _) <| pc h2 <| pc (growth_standIsDefined_fc x_1) <| pc h3 <| pc (growth_weatherIsDefined_fc w) <| pc h4 <| pn) (by kernel_rfl) (by kernel_rfl)
    ·rw [h3, cF] at hh
     rw [← sI hh]
     exact FSat.d pfT 14 (hR 6 ((z28i0 s q10 q11 q12 q13 x1) :: hE :: hE :: hE :: (hB (hC (.bool (growth_standIsDefined x_1))) false) :: (hR 7 []))) [] (pc (growth_speciesIsDefined_fc fu s q10 q11 q12 q13 x1 h1) <| pc (z28p2 s q10 q11 q12 q13) <| pc (z28p3 s) <| pt (z28r6 x1) (selfB_self 9 _ rfl _) <| pc h2 <| pc (growth_standIsDefined_fc x_1) <| pc h3 <| pn) (by kernel_rfl) (by kernel_rfl)
   ·rw [h2, cF] at hh
    rw [← sI hh]
    exact FSat.d pfT 14 (hR 6 ((z28i8 s q10 q11 q12 q13 x1) :: (hR 8 []))) [] (pc (growth_speciesIsDefined_fc fu s q10 q11 q12 q13 x1 h1) <| pc (z28p2 s q10 q11 q12 q13) <| pc (z28p3 s) <| pt (z28r6 x1) (selfB_self 9 _ rfl _) <| pc h2 <| pn) (by kernel_rfl) (by kernel_rfl)

structure XSeason where
  Light : XSpan
  Browse : XSpan
  Mild : XSpan
  Cut : Bool

def zXSeason : XSeason := ⟨zXSpan, zXSpan, zXSpan, false⟩

/- greenhew/growth.seasonIsDefined -/
abbrev A_growth_seasonIsDefined (q : XSeason) : List Value := [.agg #[I (q.Light.Low), I (q.Light.High), I (q.Browse.Low), I (q.Browse.High), I (q.Mild.Low), I (q.Mild.High), .bool (q.Cut)]]
noncomputable def growth_seasonIsDefined (q : XSeason) : Bool :=
  bif growth_isPart q.Light 100 then (bif growth_isPart q.Browse 100 then growth_isPart q.Mild 200
    else false)
  else false
theorem growth_seasonIsDefined_fc (q : XSeason) : FC P GG 72 (A_growth_seasonIsDefined q) [] (.bool (growth_seasonIsDefined q)) := by
  refine FC.of_fsat 16 100 Tryd.func72 (by kernel_rfl) (by kernel_rfl) (by kernel_rfl) trivial ?_
  rcases bb (growth_isPart q.Light 100) with h1 | h1
  ·rcases bb (growth_isPart q.Browse 100) with h2 | h2
   ·have e : growth_seasonIsDefined q = growth_isPart q.Mild 200 := by unfold growth_seasonIsDefined; rw [h1, cT, h2, cT]; first | done | rfl
    rw [e]
    exact FSat.d pfT 10 (hR 4 ((hB (hC (.bool (growth_isPart q.Light 100))) true) :: hE :: hE :: hE :: (hB (hC (.bool (growth_isPart q.Browse 100))) true) :: (hR 4 [(hC (.bool (growth_isPart q.Mild 200))), hE, hE]))) [] (pc (growth_isPart_fc q.Light 100) <| pc h1 <| pc (growth_isPart_fc q.Browse 100) <| pc h2 <| pc (growth_isPart_fc q.Mild 200) <| pn) (by kernel_rfl) (by kernel_rfl)
   ·have e : growth_seasonIsDefined q = false := by unfold growth_seasonIsDefined; rw [h1, cT, h2, cF]; first | done | rfl
    rw [e]
    exact FSat.d pfT 10 (hR 4 ((hB (hC (.bool (growth_isPart q.Light 100))) true) :: hE :: hE :: hE :: (hB (hC (.bool (growth_isPart q.Browse 100))) false) :: (hR 4 []))) [] (pc (growth_isPart_fc q.Light 100) <| pc h1 <| pc (growth_isPart_fc q.Browse 100) <| pc h2 <| pn) (by kernel_rfl) (by kernel_rfl)
  ·have e : growth_seasonIsDefined q = false := by unfold growth_seasonIsDefined; rw [h1, cF]; first | done | rfl
   rw [e]
   exact FSat.d pfT 10 (hR 4 ((hB (hC (.bool (growth_isPart q.Light 100))) false) :: (hR 5 []))) [] (pc (growth_isPart_fc q.Light 100) <| pc h1 <| pn) (by kernel_rfl) (by kernel_rfl)

/- greenhew/growth.atAge[greenhew/api.Span] -/
noncomputable abbrev z49i0 (table : List XSpan) (age : Int) : Hint := (hL (.agg #[I ((at_ zXSpan table (imin age (W (((table.length : Nat) : Int) - 1)))).Low), I ((at_ zXSpan table (imin age (W (((table.length : Nat) : Int) - 1)))).High)]))
abbrev z49r1 (table : List XSpan) (age : Int) : Prop := 0 ≤ (imin age (W (((table.length : Nat) : Int) - 1))) ∧ (imin age (W (((table.length : Nat) : Int) - 1))) < ((table.length : Nat) : Int)
abbrev z49r2 (table : List XSpan) (age : Int) : Prop := RowLd P 56 (encL cXSpan table) (0 + (imin age (W (((table.length : Nat) : Int) - 1))).toNat * 2) (.agg #[I ((at_ zXSpan table (imin age (W (((table.length : Nat) : Int) - 1)))).Low), I ((at_ zXSpan table (imin age (W (((table.length : Nat) : Int) - 1)))).High)])
abbrev A_api_Span_1 (table : List XSpan) (age : Int) (q10 : Nat) : List Value := [.slice (some ⟨10, 0, none⟩) (table.length) (q10), I (age)]
abbrev K_api_Span_1 (table : List XSpan) : List (Nat × List Value) := [(10, encL cXSpan table)]
noncomputable def api_Span_1 (table : List XSpan) (age : Int) : Option XSpan :=
  bif decide (0 ≤ (imin age (W (((table.length : Nat) : Int) - 1))) ∧ (imin age (W (((table.length : Nat) : Int) - 1))) < ((table.length : Nat) : Int)) then some (at_ zXSpan table (imin age (W (((table.length : Nat) : Int) - 1)))) else none
theorem api_Span_1_fc (table : List XSpan) (age : Int) (q10 : Nat) (r : XSpan) (hh : api_Span_1 table age = some r) : FC P GG 123 (A_api_Span_1 table age q10) (K_api_Span_1 table) (.agg #[I (r.Low), I (r.High)]) := by
  refine FC.of_fsat 13 100 Tryd.func123 (by kernel_rfl) (by kernel_rfl) (by kernel_rfl) ⟨PinL.pf (encL_pf cXSpan_pf _), trivial⟩ ?_
  unfold api_Span_1 at hh
  rcases bb (decide (0 ≤ (imin age (W (((table.length : Nat) : Int) - 1))) ∧ (imin age (W (((table.length : Nat) : Int) - 1))) < ((table.length : Nat) : Int))) with h1 | h1
  rotate_left
  ·rw [h1, cF] at hh; cases hh
  ·rw [h1, cT] at hh
   rw [← sI hh]
   exact FSat.d pfT 10 (hR 7 [hX, (z49i0 table age), hE]) [] (pt (z49r1 table age) (of_decide_eq_true h1) <| pt (z49r2 table age) (RowLd.elem cXSpan_len _ (.inl ⟨_, rfl⟩) rfl rfl _ _ (of_decide_eq_true h1)) <| pn) (by kernel_rfl) (by kernel_rfl)

/- (greenhew/growth.grower).cut -/
noncomputable abbrev z48i0 (g : Xgrower) (b : XBox) (q14 : Nat) (x1 : XSpan) : Hint := (hM (.agg #[I (x1.Low), I (x1.High)]) (.agg #[I (x1.Low), I (x1.High)]) (A_api_Span_1 g.Species.Sprouts b.Low.Age q14) (K_api_Span_1 g.Species.Sprouts) [(10, 14, 0)])
theorem z48p1 (g : Xgrower) (b : XBox) (q14 : Nat) : VRs (Ren.emb [(10, 14, 0)]) (A_api_Span_1 g.Species.Sprouts b.Low.Age q14) [.slice (some ⟨14, 0, none⟩) (g.Species.Sprouts.length) (q14), I (b.Low.Age)] := (.cons _ _ _ _ (.slc 10 0 _ _ _ ⟨14, 0, 0, 0⟩ rfl (.inl rfl)) (.cons _ _ _ _ (VR.of_pf rfl) .nil))
abbrev z48r2 (g : Xgrower) : Prop := MemAt (Ren.emb [(10, 14, 0)]) (encL cXSpan g.Species.Sprouts) 0 (encL cXSpan g.Species.Sprouts) ∧ True
abbrev z48r3 (x1 : XSpan) : Prop := VR (Ren.emb [(10, 14, 0)]) (.agg #[I (x1.Low), I (x1.High)]) (.agg #[I (x1.Low), I (x1.High)])
abbrev z48r4 : Prop := (.pointer (some ⟨10, 0, none⟩) : Value) = .pointer (some ⟨10, 0, none⟩)
abbrev z48r5 : Prop := (.pointer (some ⟨10, 7, none⟩) : Value) = .pointer (some ⟨10, 7, none⟩)
abbrev z48r6 (g : Xgrower) (q14 : Nat) : Prop := (.slice (some ⟨14, 0, none⟩) (g.Species.Sprouts.length) (q14) : Value) = .slice (some ⟨14, 0, none⟩) (g.Species.Sprouts.length) (q14)
abbrev z48r7 : Prop := (.pointer (some ⟨100, 0, none⟩) : Value) = .pointer (some ⟨100, 0, none⟩)
abbrev z48r8 (x1 : XSpan) : Prop := (.agg #[I (x1.Low), I (x1.High)] : Value) = .agg #[I (x1.Low), I (x1.High)]
abbrev A_growth_grower_cut (b : XBox) : List Value := [.pointer (some ⟨10, 0, none⟩), .agg #[I (b.Low.Age), I (b.Low.Shoots), I (b.Low.Height), I (b.Low.Girth), I (b.High.Age), I (b.High.Shoots), I (b.High.Height), I (b.High.Girth)]]
abbrev K_growth_grower_cut (g : Xgrower) (q11 q12 q13 q14 : Nat) : List (Nat × List Value) := [(11, encL cInt g.Species.Rise), (12, encL cInt g.Species.Thick), (13, encL cXRung g.Species.Ladder), (14, encL cXSpan g.Species.Sprouts), (10, [.slice (some ⟨11, 0, none⟩) (g.Species.Rise.length) (q11), .slice (some ⟨12, 0, none⟩) (g.Species.Thick.length) (q12), I (g.Species.Top), I (g.Species.Stout), I (g.Species.Shade), I (g.Species.Reach), .slice (some ⟨13, 0, none⟩) (g.Species.Ladder.length) (q13), .slice (some ⟨14, 0, none⟩) (g.Species.Sprouts.length) (q14)])]
noncomputable def growth_grower_cut (g : Xgrower) (b : XBox) : Option XBox :=
  Option.bind (api_Span_1 g.Species.Sprouts b.Low.Age) fun x1 =>
  some (⟨(⟨0, x1.Low, 0, 0⟩ : XStand), (⟨0, x1.High, 0, 0⟩ : XStand)⟩ : XBox)
theorem growth_grower_cut_fc (g : Xgrower) (b : XBox) (q11 q12 q13 q14 : Nat) (r : XBox) (hh : growth_grower_cut g b = some r) : FC P GG 108 (A_growth_grower_cut b) (K_growth_grower_cut g q11 q12 q13 q14) (.agg #[I (r.Low.Age), I (r.Low.Shoots), I (r.Low.Height), I (r.Low.Girth), I (r.High.Age), I (r.High.Shoots), I (r.High.Height), I (r.High.Girth)]) := by
  refine FC.of_fsat 22 100 Tryd.func108 (by kernel_rfl) (by kernel_rfl) (by kernel_rfl) ⟨PinL.pf (encL_pf cInt_pf _), PinL.pf (encL_pf cInt_pf _), PinL.pf (encL_pf cXRung_pf _), PinL.pf (encL_pf cXSpan_pf _), PinL.lit (by kernel_rfl), trivial⟩ ?_
  unfold growth_grower_cut at hh
  cases h1 : api_Span_1 g.Species.Sprouts b.Low.Age with
  | none => rw [h1, oN] at hh; cases hh
  | some x1 =>
   rw [h1, oS] at hh
   rw [← sI hh]
   exact FSat.d pfT 12 (hR 10 ((z48i0 g b q14 x1) :: (hR 10 []))) [] (pc (api_Span_1_fc g.Species.Sprouts b.Low.Age q14 x1 h1) <| pc (z48p1 g b q14) <| pt (z48r2 g) (⟨MemAt.same _ (encL_pf cXSpan_pf _), trivial⟩) <| pt (z48r3 x1) (selfB_self 9 _ rfl _) <| pt z48r4 rfl <| pt z48r4 rfl <| pt z48r4 rfl <| pt z48r5 rfl <| pt (z48r6 g q14) rfl <| pt z48r7 rfl <| pt z48r7 rfl <| pt ((I (b.Low.Age) : Value) = I (b.Low.Age)) rfl <| pc (api_Span_1_fc g.Species.Sprouts b.Low.Age q14 x1 h1) <| pc (z48p1 g b q14) <| pt (z48r2 g) (⟨MemAt.same _ (encL_pf cXSpan_pf _), trivial⟩) <| pt (z48r3 x1) (selfB_self 9 _ rfl _) <| pt (z48r8 x1) rfl <| pn) (by kernel_rfl) (by kernel_rfl)

/- greenhew/growth.crossed -/
abbrev A_growth_crossed (b : XBox) : List Value := [.agg #[I (b.Low.Age), I (b.Low.Shoots), I (b.Low.Height), I (b.Low.Girth), I (b.High.Age), I (b.High.Shoots), I (b.High.Height), I (b.High.Girth)]]
noncomputable def growth_crossed (b : XBox) : XBox :=
  (⟨(⟨b.Low.Age, b.High.Shoots, b.Low.Height, b.Low.Girth⟩ : XStand), (⟨b.High.Age, b.Low.Shoots, b.High.Height, b.High.Girth⟩ : XStand)⟩ : XBox)
theorem growth_crossed_fc (b : XBox) : FC P GG 109 (A_growth_crossed b) [] (.agg #[I (((growth_crossed b).Low).Age), I (((growth_crossed b).Low).Shoots), I (((growth_crossed b).Low).Height), I (((growth_crossed b).Low).Girth), I (((growth_crossed b).High).Age), I (((growth_crossed b).High).Shoots), I (((growth_crossed b).High).Height), I (((growth_crossed b).High).Girth)]) := by
  refine FC.of_fsat 14 100 Tryd.func109 (by kernel_rfl) (by kernel_rfl) (by kernel_rfl) trivial ?_
  have e : growth_crossed b = (⟨(⟨b.Low.Age, b.High.Shoots, b.Low.Height, b.Low.Girth⟩ : XStand), (⟨b.High.Age, b.Low.Shoots, b.High.Height, b.High.Girth⟩ : XStand)⟩ : XBox) := by unfold growth_crossed; rfl
  rw [e]
  exact FSat.d pfT 12 (hR 16 []) [] (pn) (by kernel_rfl) (by kernel_rfl)

/- (greenhew/growth.grower).step -/
noncomputable abbrev z47i0 (g : Xgrower) (b : XBox) (q11 q12 q13 q14 : Nat) (x1 : XBox) : Hint := (hM (.agg #[I (x1.Low.Age), I (x1.Low.Shoots), I (x1.Low.Height), I (x1.Low.Girth), I (x1.High.Age), I (x1.High.Shoots), I (x1.High.Height), I (x1.High.Girth)]) (.agg #[I (x1.Low.Age), I (x1.Low.Shoots), I (x1.Low.Height), I (x1.Low.Girth), I (x1.High.Age), I (x1.High.Shoots), I (x1.High.Height), I (x1.High.Girth)]) (A_growth_grower_cut b) (K_growth_grower_cut g q11 q12 q13 q14) [(11, 11, 0), (12, 12, 0), (13, 13, 0), (14, 14, 0), (10, 10, 0)])
noncomputable abbrev z47i1 (x1 : XBox) : Hint := (hC (.agg #[I (((growth_crossed x1).Low).Age), I (((growth_crossed x1).Low).Shoots), I (((growth_crossed x1).Low).Height), I (((growth_crossed x1).Low).Girth), I (((growth_crossed x1).High).Age), I (((growth_crossed x1).High).Shoots), I (((growth_crossed x1).High).Height), I (((growth_crossed x1).High).Girth)]))
noncomputable abbrev z47i2 (g : Xgrower) (q : XSeason) (q11 q12 q13 q14 : Nat) (x1 : XBox) (x2 : XStand) : Hint := (hM (.agg #[I (x2.Age), I (x2.Shoots), I (x2.Height), I (x2.Girth)]) (.agg #[I (x2.Age), I (x2.Shoots), I (x2.Height), I (x2.Girth)]) (A_growth_grower_grow ((growth_crossed x1).Low) (⟨q.Light.Low, q.Browse.High, q.Mild.Low⟩ : XWeather)) (K_growth_grower_grow g q11 q12 q13 q14) [(11, 11, 0), (12, 12, 0), (13, 13, 0), (14, 14, 0), (10, 10, 0)])
noncomputable abbrev z47i3 (g : Xgrower) (q : XSeason) (q11 q12 q13 q14 : Nat) (x1 : XBox) (x3 : XStand) : Hint := (hM (.agg #[I (x3.Age), I (x3.Shoots), I (x3.Height), I (x3.Girth)]) (.agg #[I (x3.Age), I (x3.Shoots), I (x3.Height), I (x3.Girth)]) (A_growth_grower_grow ((growth_crossed x1).High) (⟨q.Light.High, q.Browse.Low, q.Mild.High⟩ : XWeather)) (K_growth_grower_grow g q11 q12 q13 q14) [(11, 11, 0), (12, 12, 0), (13, 13, 0), (14, 14, 0), (10, 10, 0)])
noncomputable abbrev z47i4 (x2 x3 : XStand) : Hint := (hC (.agg #[I (((growth_crossed (⟨x2, x3⟩ : XBox)).Low).Age), I (((growth_crossed (⟨x2, x3⟩ : XBox)).Low).Shoots), I (((growth_crossed (⟨x2, x3⟩ : XBox)).Low).Height), I (((growth_crossed (⟨x2, x3⟩ : XBox)).Low).Girth), I (((growth_crossed (⟨x2, x3⟩ : XBox)).High).Age), I (((growth_crossed (⟨x2, x3⟩ : XBox)).High).Shoots), I (((growth_crossed (⟨x2, x3⟩ : XBox)).High).Height), I (((growth_crossed (⟨x2, x3⟩ : XBox)).High).Girth)]))
theorem z47p5 (b : XBox) : VRs (Ren.emb [(11, 11, 0), (12, 12, 0), (13, 13, 0), (14, 14, 0), (10, 10, 0)]) (A_growth_grower_cut b) [.pointer (some ⟨10, 0, none⟩), .agg #[I (b.Low.Age), I (b.Low.Shoots), I (b.Low.Height), I (b.Low.Girth), I (b.High.Age), I (b.High.Shoots), I (b.High.Height), I (b.High.Girth)]] := (.cons _ _ _ _ (.ptr 10 0 ⟨10, 0, 0, 0⟩ rfl) (.cons _ _ _ _ (VR.of_pf rfl) .nil))
theorem z47p6 (g : Xgrower) (q11 q12 q13 q14 : Nat) : MemAt (Ren.emb [(11, 11, 0), (12, 12, 0), (13, 13, 0), (14, 14, 0), (10, 10, 0)]) (encL cInt g.Species.Rise) 0 (encL cInt g.Species.Rise) ∧ MemAt (Ren.emb [(11, 11, 0), (12, 12, 0), (13, 13, 0), (14, 14, 0), (10, 10, 0)]) (encL cInt g.Species.Thick) 0 (encL cInt g.Species.Thick) ∧ MemAt (Ren.emb [(11, 11, 0), (12, 12, 0), (13, 13, 0), (14, 14, 0), (10, 10, 0)]) (encL cXRung g.Species.Ladder) 0 (encL cXRung g.Species.Ladder) ∧ MemAt (Ren.emb [(11, 11, 0), (12, 12, 0), (13, 13, 0), (14, 14, 0), (10, 10, 0)]) (encL cXSpan g.Species.Sprouts) 0 (encL cXSpan g.Species.Sprouts) ∧ MemAt (Ren.emb [(11, 11, 0), (12, 12, 0), (13, 13, 0), (14, 14, 0), (10, 10, 0)]) [.slice (some ⟨11, 0, none⟩) (g.Species.Rise.length) (q11), .slice (some ⟨12, 0, none⟩) (g.Species.Thick.length) (q12), I (g.Species.Top), I (g.Species.Stout), I (g.Species.Shade), I (g.Species.Reach), .slice (some ⟨13, 0, none⟩) (g.Species.Ladder.length) (q13), .slice (some ⟨14, 0, none⟩) (g.Species.Sprouts.length) (q14)] 0 [.slice (some ⟨11, 0, none⟩) (g.Species.Rise.length) (q11), .slice (some ⟨12, 0, none⟩) (g.Species.Thick.length) (q12), I (g.Species.Top), I (g.Species.Stout), I (g.Species.Shade), I (g.Species.Reach), .slice (some ⟨13, 0, none⟩) (g.Species.Ladder.length) (q13), .slice (some ⟨14, 0, none⟩) (g.Species.Sprouts.length) (q14)] ∧ True := ⟨MemAt.same _ (encL_pf cInt_pf _), MemAt.same _ (encL_pf cInt_pf _), MemAt.same _ (encL_pf cXRung_pf _), MemAt.same _ (encL_pf cXSpan_pf _), MemAt.of (.cons _ _ _ _ (.slc 11 0 _ _ _ ⟨11, 0, 0, 0⟩ rfl (.inl rfl)) (.cons _ _ _ _ (.slc 12 0 _ _ _ ⟨12, 0, 0, 0⟩ rfl (.inl rfl)) (.cons _ _ _ _ (VR.of_pf rfl) (.cons _ _ _ _ (VR.of_pf rfl) (.cons _ _ _ _ (VR.of_pf rfl) (.cons _ _ _ _ (VR.of_pf rfl) (.cons _ _ _ _ (.slc 13 0 _ _ _ ⟨13, 0, 0, 0⟩ rfl (.inl rfl)) (.cons _ _ _ _ (.slc 14 0 _ _ _ ⟨14, 0, 0, 0⟩ rfl (.inl rfl)) .nil)))))))), trivial⟩
theorem z47p7 (q : XSeason) (x1 : XBox) : VRs (Ren.emb [(11, 11, 0), (12, 12, 0), (13, 13, 0), (14, 14, 0), (10, 10, 0)]) (A_growth_grower_grow ((growth_crossed x1).Low) (⟨q.Light.Low, q.Browse.High, q.Mild.Low⟩ : XWeather)) [.pointer (some ⟨10, 0, none⟩), .agg #[I (((growth_crossed x1).Low).Age), I (((growth_crossed x1).Low).Shoots), I (((growth_crossed x1).Low).Height), I (((growth_crossed x1).Low).Girth)], .agg #[I (q.Light.Low), I (q.Browse.High), I (q.Mild.Low)]] := (.cons _ _ _ _ (.ptr 10 0 ⟨10, 0, 0, 0⟩ rfl) (.cons _ _ _ _ (VR.of_pf rfl) (.cons _ _ _ _ (VR.of_pf rfl) .nil)))
theorem z47p8 (q : XSeason) (x1 : XBox) : VRs (Ren.emb [(11, 11, 0), (12, 12, 0), (13, 13, 0), (14, 14, 0), (10, 10, 0)]) (A_growth_grower_grow ((growth_crossed x1).High) (⟨q.Light.High, q.Browse.Low, q.Mild.High⟩ : XWeather)) [.pointer (some ⟨10, 0, none⟩), .agg #[I (((growth_crossed x1).High).Age), I (((growth_crossed x1).High).Shoots), I (((growth_crossed x1).High).Height), I (((growth_crossed x1).High).Girth)], .agg #[I (q.Light.High), I (q.Browse.Low), I (q.Mild.High)]] := (.cons _ _ _ _ (.ptr 10 0 ⟨10, 0, 0, 0⟩ rfl) (.cons _ _ _ _ (VR.of_pf rfl) (.cons _ _ _ _ (VR.of_pf rfl) .nil)))
abbrev z47r9 (x1 : XBox) : Prop := VR (Ren.emb [(11, 11, 0), (12, 12, 0), (13, 13, 0), (14, 14, 0), (10, 10, 0)]) (.agg #[I (x1.Low.Age), I (x1.Low.Shoots), I (x1.Low.Height), I (x1.Low.Girth), I (x1.High.Age), I (x1.High.Shoots), I (x1.High.Height), I (x1.High.Girth)]) (.agg #[I (x1.Low.Age), I (x1.Low.Shoots), I (x1.Low.Height), I (x1.Low.Girth), I (x1.High.Age), I (x1.High.Shoots), I (x1.High.Height), I (x1.High.Girth)])
abbrev z47r10 (x2 : XStand) : Prop := VR (Ren.emb [(11, 11, 0), (12, 12, 0), (13, 13, 0), (14, 14, 0), (10, 10, 0)]) (.agg #[I (x2.Age), I (x2.Shoots), I (x2.Height), I (x2.Girth)]) (.agg #[I (x2.Age), I (x2.Shoots), I (x2.Height), I (x2.Girth)])
abbrev z47r11 (x3 : XStand) : Prop := VR (Ren.emb [(11, 11, 0), (12, 12, 0), (13, 13, 0), (14, 14, 0), (10, 10, 0)]) (.agg #[I (x3.Age), I (x3.Shoots), I (x3.Height), I (x3.Girth)]) (.agg #[I (x3.Age), I (x3.Shoots), I (x3.Height), I (x3.Girth)])
noncomputable abbrev z47i12 (b : XBox) : Hint := (hC (.agg #[I (((growth_crossed b).Low).Age), I (((growth_crossed b).Low).Shoots), I (((growth_crossed b).Low).Height), I (((growth_crossed b).Low).Girth), I (((growth_crossed b).High).Age), I (((growth_crossed b).High).Shoots), I (((growth_crossed b).High).Height), I (((growth_crossed b).High).Girth)]))
noncomputable abbrev z47i13 (g : Xgrower) (b : XBox) (q : XSeason) (q11 q12 q13 q14 : Nat) (x4 : XStand) : Hint := (hM (.agg #[I (x4.Age), I (x4.Shoots), I (x4.Height), I (x4.Girth)]) (.agg #[I (x4.Age), I (x4.Shoots), I (x4.Height), I (x4.Girth)]) (A_growth_grower_grow ((growth_crossed b).Low) (⟨q.Light.Low, q.Browse.High, q.Mild.Low⟩ : XWeather)) (K_growth_grower_grow g q11 q12 q13 q14) [(11, 11, 0), (12, 12, 0), (13, 13, 0), (14, 14, 0), (10, 10, 0)])
noncomputable abbrev z47i14 (g : Xgrower) (b : XBox) (q : XSeason) (q11 q12 q13 q14 : Nat) (x5 : XStand) : Hint := (hM (.agg #[I (x5.Age), I (x5.Shoots), I (x5.Height), I (x5.Girth)]) (.agg #[I (x5.Age), I (x5.Shoots), I (x5.Height), I (x5.Girth)]) (A_growth_grower_grow ((growth_crossed b).High) (⟨q.Light.High, q.Browse.Low, q.Mild.High⟩ : XWeather)) (K_growth_grower_grow g q11 q12 q13 q14) [(11, 11, 0), (12, 12, 0), (13, 13, 0), (14, 14, 0), (10, 10, 0)])
noncomputable abbrev z47i15 (x4 x5 : XStand) : Hint := (hC (.agg #[I (((growth_crossed (⟨x4, x5⟩ : XBox)).Low).Age), I (((growth_crossed (⟨x4, x5⟩ : XBox)).Low).Shoots), I (((growth_crossed (⟨x4, x5⟩ : XBox)).Low).Height), I (((growth_crossed (⟨x4, x5⟩ : XBox)).Low).Girth), I (((growth_crossed (⟨x4, x5⟩ : XBox)).High).Age), I (((growth_crossed (⟨x4, x5⟩ : XBox)).High).Shoots), I (((growth_crossed (⟨x4, x5⟩ : XBox)).High).Height), I (((growth_crossed (⟨x4, x5⟩ : XBox)).High).Girth)]))
theorem z47p16 (b : XBox) (q : XSeason) : VRs (Ren.emb [(11, 11, 0), (12, 12, 0), (13, 13, 0), (14, 14, 0), (10, 10, 0)]) (A_growth_grower_grow ((growth_crossed b).Low) (⟨q.Light.Low, q.Browse.High, q.Mild.Low⟩ : XWeather)) [.pointer (some ⟨10, 0, none⟩), .agg #[I (((growth_crossed b).Low).Age), I (((growth_crossed b).Low).Shoots), I (((growth_crossed b).Low).Height), I (((growth_crossed b).Low).Girth)], .agg #[I (q.Light.Low), I (q.Browse.High), I (q.Mild.Low)]] := (.cons _ _ _ _ (.ptr 10 0 ⟨10, 0, 0, 0⟩ rfl) (.cons _ _ _ _ (VR.of_pf rfl) (.cons _ _ _ _ (VR.of_pf rfl) .nil)))
theorem z47p17 (b : XBox) (q : XSeason) : VRs (Ren.emb [(11, 11, 0), (12, 12, 0), (13, 13, 0), (14, 14, 0), (10, 10, 0)]) (A_growth_grower_grow ((growth_crossed b).High) (⟨q.Light.High, q.Browse.Low, q.Mild.High⟩ : XWeather)) [.pointer (some ⟨10, 0, none⟩), .agg #[I (((growth_crossed b).High).Age), I (((growth_crossed b).High).Shoots), I (((growth_crossed b).High).Height), I (((growth_crossed b).High).Girth)], .agg #[I (q.Light.High), I (q.Browse.Low), I (q.Mild.High)]] := (.cons _ _ _ _ (.ptr 10 0 ⟨10, 0, 0, 0⟩ rfl) (.cons _ _ _ _ (VR.of_pf rfl) (.cons _ _ _ _ (VR.of_pf rfl) .nil)))
abbrev z47r18 (x4 : XStand) : Prop := VR (Ren.emb [(11, 11, 0), (12, 12, 0), (13, 13, 0), (14, 14, 0), (10, 10, 0)]) (.agg #[I (x4.Age), I (x4.Shoots), I (x4.Height), I (x4.Girth)]) (.agg #[I (x4.Age), I (x4.Shoots), I (x4.Height), I (x4.Girth)])
abbrev z47r19 (x5 : XStand) : Prop := VR (Ren.emb [(11, 11, 0), (12, 12, 0), (13, 13, 0), (14, 14, 0), (10, 10, 0)]) (.agg #[I (x5.Age), I (x5.Shoots), I (x5.Height), I (x5.Girth)]) (.agg #[I (x5.Age), I (x5.Shoots), I (x5.Height), I (x5.Girth)])
abbrev A_growth_grower_step (b : XBox) (q : XSeason) : List Value := [.pointer (some ⟨10, 0, none⟩), .agg #[I (b.Low.Age), I (b.Low.Shoots), I (b.Low.Height), I (b.Low.Girth), I (b.High.Age), I (b.High.Shoots), I (b.High.Height), I (b.High.Girth)], .agg #[I (q.Light.Low), I (q.Light.High), I (q.Browse.Low), I (q.Browse.High), I (q.Mild.Low), I (q.Mild.High), .bool (q.Cut)]]
abbrev K_growth_grower_step (g : Xgrower) (q11 q12 q13 q14 : Nat) : List (Nat × List Value) := [(11, encL cInt g.Species.Rise), (12, encL cInt g.Species.Thick), (13, encL cXRung g.Species.Ladder), (14, encL cXSpan g.Species.Sprouts), (10, [.slice (some ⟨11, 0, none⟩) (g.Species.Rise.length) (q11), .slice (some ⟨12, 0, none⟩) (g.Species.Thick.length) (q12), I (g.Species.Top), I (g.Species.Stout), I (g.Species.Shade), I (g.Species.Reach), .slice (some ⟨13, 0, none⟩) (g.Species.Ladder.length) (q13), .slice (some ⟨14, 0, none⟩) (g.Species.Sprouts.length) (q14)])]
noncomputable def growth_grower_step (fu : Nat) (g : Xgrower) (b : XBox) (q : XSeason) : Option XBox :=
  bif q.Cut then (Option.bind (growth_grower_cut g b) fun x1 =>
    Option.bind (growth_grower_grow fu g ((growth_crossed x1).Low) (⟨q.Light.Low, q.Browse.High, q.Mild.Low⟩ : XWeather)) fun x2 =>
    Option.bind (growth_grower_grow fu g ((growth_crossed x1).High) (⟨q.Light.High, q.Browse.Low, q.Mild.High⟩ : XWeather)) fun x3 =>
    some (⟨((growth_crossed (⟨x2, x3⟩ : XBox)).Low), ((growth_crossed (⟨x2, x3⟩ : XBox)).High)⟩ : XBox))
  else (Option.bind (growth_grower_grow fu g ((growth_crossed b).Low) (⟨q.Light.Low, q.Browse.High, q.Mild.Low⟩ : XWeather)) fun x4 =>
    Option.bind (growth_grower_grow fu g ((growth_crossed b).High) (⟨q.Light.High, q.Browse.Low, q.Mild.High⟩ : XWeather)) fun x5 =>
    some (⟨((growth_crossed (⟨x4, x5⟩ : XBox)).Low), ((growth_crossed (⟨x4, x5⟩ : XBox)).High)⟩ : XBox))
theorem growth_grower_step_fc (fu : Nat) (g : Xgrower) (b : XBox) (q : XSeason) (q11 q12 q13 q14 : Nat) (r : XBox) (hh : growth_grower_step fu g b q = some r) : FC P GG 73 (A_growth_grower_step b q) (K_growth_grower_step g q11 q12 q13 q14) (.agg #[I (r.Low.Age), I (r.Low.Shoots), I (r.Low.Height), I (r.Low.Girth), I (r.High.Age), I (r.High.Shoots), I (r.High.Height), I (r.High.Girth)]) := by
  refine FC.of_fsat 49 100 Tryd.func73 (by kernel_rfl) (by kernel_rfl) (by kernel_rfl) ⟨PinL.pf (encL_pf cInt_pf _), PinL.pf (encL_pf cInt_pf _), PinL.pf (encL_pf cXRung_pf _), PinL.pf (encL_pf cXSpan_pf _), PinL.lit (by kernel_rfl), trivial⟩ ?_
  unfold growth_grower_step at hh
  rcases bb (q.Cut) with h1 | h1
  ·rw [h1, cT] at hh
   cases h2 : growth_grower_cut g b with
   | none => rw [h2, oN] at hh; cases hh
   | some x1 =>
    rw [h2, oS] at hh
    cases h3 : growth_grower_grow fu g ((growth_crossed x1).Low) (⟨q.Light.Low, q.Browse.High, q.Mild.Low⟩ : XWeather) with
    | none => rw [h3, oN] at hh; cases hh
    | some x2 =>
     rw [h3, oS] at hh
     cases h4 : growth_grower_grow fu g ((growth_crossed x1).High) (⟨q.Light.High, q.Browse.Low, q.Mild.High⟩ : XWeather) with
     | none => rw [h4, oN] at hh; cases hh
     | some x3 =>
      rw [h4, oS] at hh
      rw [← sI hh]
      exact FSat.d pfT 21 (hR 4 (hT :: hE :: hE :: (z47i0 g b q11 q12 q13 q14 x1) :: (hR 26 ((z47i1 x1) :: (hR 6 ((z47i2 g q q11 q12 q13 q14 x1 x2) :: (hR 4 [(z47i3 g q q11 q12 q13 q14 x1 x3), hE, (z47i4 x2 x3), hE]))))))) [] (pc h1 <| pc (growth_grower_cut_fc g b q11 q12 q13 q14 x1 h2) <| pc (z47p5 b) <| pc (z47p6 g q11 q12 q13 q14) <| pt (z47r9 x1) (selfB_self 9 _ rfl _) <| pc (growth_crossed_fc x1) <| pc (growth_grower_grow_fc fu g ((growth_crossed x1).Low) (⟨q.Light.Low, q.Browse.High, q.Mild.Low⟩ : XWeather) q11 q12 q13 q14 x2 h3) <| pc (z47p7 q x1) <| pc (z47p6 g q11 q12 q13 q14) <| pt (z47r10 x2) (selfB_self 9 _ rfl _) <| pc (growth_grower_grow_fc fu g ((growth_crossed x1).High) (⟨q.Light.High, q.Browse.Low, q.Mild.High⟩ : XWeather) q11 q12 q13 q14 x3 h4) <| pc (z47p8 q x1) <| pc (z47p6 g q11 q12 q13 q14) <| pt (z47r11 x3) (selfB_self 9 _ rfl _) <| pc (growth_crossed_fc (⟨x2, x3⟩ : XBox)) <| pn) (by kernel_rfl) (by kernel_rfl)
  ·rw [h1, cF] at hh
   cases h2 : growth_grower_grow fu g ((growth_crossed b).Low) (⟨q.Light.Low, q.Browse.High, q.Mild.Low⟩ : XWeather) with
   | none => rw [h2, oN] at hh; cases hh
   | some x4 =>
    rw [h2, oS] at hh
    cases h3 : growth_grower_grow fu g ((growth_crossed b).High) (⟨q.Light.High, q.Browse.Low, q.Mild.High⟩ : XWeather) with
    | none => rw [h3, oN] at hh; cases hh
    | some x5 =>
     rw [h3, oS] at hh
     rw [← sI hh]
     exact FSat.d pfT 21 (hR 4 (hF :: (hR 25 ((z47i12 b) :: (hR 6 ((z47i13 g b q q11 q12 q13 q14 x4) :: (hR 4 [(z47i14 g b q q11 q12 q13 q14 x5), hE, (z47i15 x4 x5), hE]))))))) [] (pc h1 <| pc (growth_crossed_fc b) <| pc (growth_grower_grow_fc fu g ((growth_crossed b).Low) (⟨q.Light.Low, q.Browse.High, q.Mild.Low⟩ : XWeather) q11 q12 q13 q14 x4 h2) <| pc (z47p16 b q) <| pc (z47p6 g q11 q12 q13 q14) <| pt (z47r18 x4) (selfB_self 9 _ rfl _) <| pc (growth_grower_grow_fc fu g ((growth_crossed b).High) (⟨q.Light.High, q.Browse.Low, q.Mild.High⟩ : XWeather) q11 q12 q13 q14 x5 h3) <| pc (z47p17 b q) <| pc (z47p6 g q11 q12 q13 q14) <| pt (z47r19 x5) (selfB_self 9 _ rfl _) <| pc (growth_crossed_fc (⟨x4, x5⟩ : XBox)) <| pn) (by kernel_rfl) (by kernel_rfl)

end Go.Proofs.G2
