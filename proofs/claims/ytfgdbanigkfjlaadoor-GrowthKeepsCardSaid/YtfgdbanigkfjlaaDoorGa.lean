/- Contracts of the functions that the law runs, part 1: made by a program, checked by the kernel. No conditions. -/
import Derived.Test.YtfgdbanigkfjlaaDoorProg
import Derived.KernelRfl
import Derived.Test.YtfgdbanigkfjlaaDoorLa
namespace Go.Proofs.G2
open Go.Sim Go.Proofs
set_option maxRecDepth 20000
set_option maxHeartbeats 1000000
noncomputable abbrev P : Program := Tryd.prog
theorem zB : (Tryd.prog.types.toList.all zeroB) = true := by kernel_rfl
theorem pfT : PF P := ⟨info_zero zB, by kernel_rfl⟩
noncomputable def GG : Globals := [(0, [.int .i64 1, .int .i64 2, .int .i64 3])]
abbrev I (n : Int) : Value := .int .i64 n
abbrev W (n : Int) : Int := IntKind.i64.wrap n
def imin (x y : Int) : Int := if y < x then y else x
def imax (x y : Int) : Int := if y > x then y else x
def hE : Hint := ⟨.ev, none⟩
def hT : Hint := ⟨.ev, some true⟩
def hF : Hint := ⟨.ev, some false⟩
def hX : Hint := ⟨.ix, none⟩
def hQ : Hint := ⟨.eq, none⟩
def hR (n : Nat) (l : List Hint) : List Hint := Nat.rec (motive := fun _ => List Hint) l (fun _ r => hE :: r) n
def hD : Hint := ⟨.dv, none⟩
def hL (v : Value) : Hint := ⟨.ld v, none⟩
def hC (v : Value) : Hint := ⟨.cf v, none⟩
def hM (v0 v : Value) (ca : List Value) (km : List (Nat × List Value)) (σ : Ren) : Hint := ⟨.cm v0 v ca km σ, none⟩
def hZ (v : Value) : Hint := ⟨.lz v, none⟩
def hZS : Hint := ⟨.lzs, none⟩
def hB (h : Hint) (b : Bool) : Hint := ⟨h.h, some b⟩
structure XRung where
  Height : Int
  Shoots : Int

def zXRung : XRung := ⟨0, 0⟩

structure XSpan where
  Low : Int
  High : Int

def zXSpan : XSpan := ⟨0, 0⟩

structure XSpecies where
  Rise : List Int
  Thick : List Int
  Top : Int
  Stout : Int
  Shade : Int
  Reach : Int
  Ladder : List XRung
  Sprouts : List XSpan

def zXSpecies : XSpecies := ⟨[], [], 0, 0, 0, 0, [], []⟩

def cInt (x : Int) : List Value := [I (x)]
theorem cInt_len (x : Int) : (cInt x).length = 1 := rfl
theorem cInt_pf : ∀ (x : Int), ∀ v ∈ cInt x, pf v = true := by
  intro x v hv
  simp only [cInt, List.mem_cons, List.not_mem_nil, or_false] at hv
  subst hv; rfl

def cXRung (x : XRung) : List Value := [I (x.Height), I (x.Shoots)]
theorem cXRung_len (x : XRung) : (cXRung x).length = 2 := rfl
theorem cXRung_pf : ∀ (x : XRung), ∀ v ∈ cXRung x, pf v = true := by
  intro x v hv
  simp only [cXRung, List.mem_cons, List.not_mem_nil, or_false] at hv
  rcases hv with rfl | rfl <;> rfl

def cXSpan (x : XSpan) : List Value := [I (x.Low), I (x.High)]
theorem cXSpan_len (x : XSpan) : (cXSpan x).length = 2 := rfl
theorem cXSpan_pf : ∀ (x : XSpan), ∀ v ∈ cXSpan x, pf v = true := by
  intro x v hv
  simp only [cXSpan, List.mem_cons, List.not_mem_nil, or_false] at hv
  rcases hv with rfl | rfl <;> rfl

structure XStand where
  Age : Int
  Shoots : Int
  Height : Int
  Girth : Int

def zXStand : XStand := ⟨0, 0, 0, 0⟩

structure XBox where
  Low : XStand
  High : XStand

def zXBox : XBox := ⟨zXStand, zXStand⟩

structure XSeason where
  Light : XSpan
  Browse : XSpan
  Mild : XSpan
  Cut : Bool

def zXSeason : XSeason := ⟨zXSpan, zXSpan, zXSpan, false⟩

structure XTrue where
  Light : Int
  Browse : Int
  Mild : Int
  Sprouts : Int

def zXTrue : XTrue := ⟨0, 0, 0, 0⟩

/- greenhew/greenhewlaw02.short -/
abbrev A_law02_short (s : XSpecies) (q10 : Nat) (q11 : Nat) (q12 : Nat) (q13 : Nat) : List Value := [.agg #[.slice (some ⟨10, 0, none⟩) (s.Rise.length) (q10), .slice (some ⟨11, 0, none⟩) (s.Thick.length) (q11), I (s.Top), I (s.Stout), I (s.Shade), I (s.Reach), .slice (some ⟨12, 0, none⟩) (s.Ladder.length) (q12), .slice (some ⟨13, 0, none⟩) (s.Sprouts.length) (q13)]]
abbrev K_law02_short (s : XSpecies) : List (Nat × List Value) := [(10, encL cInt s.Rise), (11, encL cInt s.Thick), (12, encL cXRung s.Ladder), (13, encL cXSpan s.Sprouts)]
noncomputable def law02_short (s : XSpecies) : Bool :=
  bif decide (((s.Rise.length : Nat) : Int) ≤ 70) then (bif decide (((s.Thick.length : Nat) : Int) ≤ 70) then (bif decide (((s.Ladder.length : Nat) : Int) ≤ 25) then decide (((s.Sprouts.length : Nat) : Int) ≤ 70)
      else false)
    else false)
  else false
theorem law02_short_fc (s : XSpecies) (q10 q11 q12 q13 : Nat) : FC P GG 17 [.agg #[.slice (some ⟨10, 0, none⟩) (s.Rise.length) (q10), .slice (some ⟨11, 0, none⟩) (s.Thick.length) (q11), I (s.Top), I (s.Stout), I (s.Shade), I (s.Reach), .slice (some ⟨12, 0, none⟩) (s.Ladder.length) (q12), .slice (some ⟨13, 0, none⟩) (s.Sprouts.length) (q13)]] [(10, encL cInt s.Rise), (11, encL cInt s.Thick), (12, encL cXRung s.Ladder), (13, encL cXSpan s.Sprouts)] (.bool (law02_short s)) := by
  refine FC.of_fsat 25 100 Tryd.func17 (by kernel_rfl) (by kernel_rfl) (by kernel_rfl) ⟨PinL.pf (encL_pf cInt_pf _), PinL.pf (encL_pf cInt_pf _), PinL.pf (encL_pf cXRung_pf _), PinL.pf (encL_pf cXSpan_pf _), trivial⟩ ?_
  rcases Bool.eq_false_or_eq_true (decide (((s.Rise.length : Nat) : Int) ≤ 70)) with h1 | h1
  · skip
    rcases Bool.eq_false_or_eq_true (decide (((s.Thick.length : Nat) : Int) ≤ 70)) with h2 | h2
    · skip
      rcases Bool.eq_false_or_eq_true (decide (((s.Ladder.length : Nat) : Int) ≤ 25)) with h3 | h3
      · skip
        have e : law02_short s = decide (((s.Sprouts.length : Nat) : Int) ≤ 70) := by unfold law02_short; rw [h1, cond_true, h2, cond_true, h3, cond_true]; first | done | rfl
        rw [e]
        exact FSat.done pfT (fuel := 10) (hs := (hR 5 (hT :: (hR 4 (hT :: (hR 5 (hT :: (hR 8 [])))))))) (ss := []) (R := [(decide (((s.Rise.length : Nat) : Int) ≤ 70)) = true, (decide (((s.Thick.length : Nat) : Int) ≤ 70)) = true, (decide (((s.Ladder.length : Nat) : Int) ≤ 25)) = true]) (by kernel_rfl) ⟨h1, h2, h3, trivial⟩ (by kernel_rfl)
      · skip
        have e : law02_short s = false := by unfold law02_short; rw [h1, cond_true, h2, cond_true, h3, cond_false]; first | done | rfl
        rw [e]
        exact FSat.done pfT (fuel := 10) (hs := (hR 5 (hT :: (hR 4 (hT :: (hR 5 (hF :: (hR 4 [])))))))) (ss := []) (R := [(decide (((s.Rise.length : Nat) : Int) ≤ 70)) = true, (decide (((s.Thick.length : Nat) : Int) ≤ 70)) = true, (decide (((s.Ladder.length : Nat) : Int) ≤ 25)) = false]) (by kernel_rfl) ⟨h1, h2, h3, trivial⟩ (by kernel_rfl)
    · skip
      have e : law02_short s = false := by unfold law02_short; rw [h1, cond_true, h2, cond_false]; first | done | rfl
      rw [e]
      exact FSat.done pfT (fuel := 10) (hs := (hR 5 (hT :: (hR 4 (hF :: (hR 6 [])))))) (ss := []) (R := [(decide (((s.Rise.length : Nat) : Int) ≤ 70)) = true, (decide (((s.Thick.length : Nat) : Int) ≤ 70)) = false]) (by kernel_rfl) ⟨h1, h2, trivial⟩ (by kernel_rfl)
  · skip
    have e : law02_short s = false := by unfold law02_short; rw [h1, cond_false]; first | done | rfl
    rw [e]
    exact FSat.done pfT (fuel := 10) (hs := (hR 5 (hF :: (hR 7 [])))) (ss := []) (R := [(decide (((s.Rise.length : Nat) : Int) ≤ 70)) = false]) (by kernel_rfl) ⟨h1, trivial⟩ (by kernel_rfl)

/- greenhew/greenhewlaw02.right -/
abbrev A_law02_right (t_0 : XTrue) : List Value := [.agg #[I (t_0.Light), I (t_0.Browse), I (t_0.Mild), I (t_0.Sprouts)]]
noncomputable def law02_right (t_0 : XTrue) : Bool :=
  bif decide (t_0.Light ≥ 0) then (bif decide (t_0.Light ≤ 100) then (bif decide (t_0.Browse ≥ 0) then (bif decide (t_0.Browse ≤ 100) then (bif decide (t_0.Mild ≥ 0) then (bif decide (t_0.Mild ≤ 100) then (bif decide (t_0.Sprouts ≥ 0) then decide (t_0.Sprouts ≤ 100)
              else false)
            else false)
          else false)
        else false)
      else false)
    else false)
  else false
theorem law02_right_fc (t_0 : XTrue) : FC P GG 37 [.agg #[I (t_0.Light), I (t_0.Browse), I (t_0.Mild), I (t_0.Sprouts)]] [] (.bool (law02_right t_0)) := by
  refine FC.of_fsat 41 100 Tryd.func37 (by kernel_rfl) (by kernel_rfl) (by kernel_rfl) trivial ?_
  rcases Bool.eq_false_or_eq_true (decide (t_0.Light ≥ 0)) with h1 | h1
  · skip
    rcases Bool.eq_false_or_eq_true (decide (t_0.Light ≤ 100)) with h2 | h2
    · skip
      rcases Bool.eq_false_or_eq_true (decide (t_0.Browse ≥ 0)) with h3 | h3
      · skip
        rcases Bool.eq_false_or_eq_true (decide (t_0.Browse ≤ 100)) with h4 | h4
        · skip
          rcases Bool.eq_false_or_eq_true (decide (t_0.Mild ≥ 0)) with h5 | h5
          · skip
            rcases Bool.eq_false_or_eq_true (decide (t_0.Mild ≤ 100)) with h6 | h6
            · skip
              rcases Bool.eq_false_or_eq_true (decide (t_0.Sprouts ≥ 0)) with h7 | h7
              · skip
                have e : law02_right t_0 = decide (t_0.Sprouts ≤ 100) := by unfold law02_right; rw [h1, cond_true, h2, cond_true, h3, cond_true, h4, cond_true, h5, cond_true, h6, cond_true, h7, cond_true]; first | done | rfl
                rw [e]
                exact FSat.done pfT (fuel := 10) (hs := (hR 4 (hT :: hE :: hE :: hE :: hT :: (hR 4 (hT :: (hR 4 (hT :: (hR 4 (hT :: (hR 4 (hT :: (hR 4 (hT :: (hR 7 [])))))))))))))) (ss := []) (R := [(decide (t_0.Light ≥ 0)) = true, (decide (t_0.Light ≤ 100)) = true, (decide (t_0.Browse ≥ 0)) = true, (decide (t_0.Browse ≤ 100)) = true, (decide (t_0.Mild ≥ 0)) = true, (decide (t_0.Mild ≤ 100)) = true, (decide (t_0.Sprouts ≥ 0)) = true]) (by kernel_rfl) ⟨h1, h2, h3, h4, h5, h6, h7, trivial⟩ (by kernel_rfl)
              · skip
                have e : law02_right t_0 = false := by unfold law02_right; rw [h1, cond_true, h2, cond_true, h3, cond_true, h4, cond_true, h5, cond_true, h6, cond_true, h7, cond_false]; first | done | rfl
                rw [e]
                exact FSat.done pfT (fuel := 10) (hs := (hR 4 (hT :: hE :: hE :: hE :: hT :: (hR 4 (hT :: (hR 4 (hT :: (hR 4 (hT :: (hR 4 (hT :: (hR 4 (hF :: (hR 4 [])))))))))))))) (ss := []) (R := [(decide (t_0.Light ≥ 0)) = true, (decide (t_0.Light ≤ 100)) = true, (decide (t_0.Browse ≥ 0)) = true, (decide (t_0.Browse ≤ 100)) = true, (decide (t_0.Mild ≥ 0)) = true, (decide (t_0.Mild ≤ 100)) = true, (decide (t_0.Sprouts ≥ 0)) = false]) (by kernel_rfl) ⟨h1, h2, h3, h4, h5, h6, h7, trivial⟩ (by kernel_rfl)
            · skip
              have e : law02_right t_0 = false := by unfold law02_right; rw [h1, cond_true, h2, cond_true, h3, cond_true, h4, cond_true, h5, cond_true, h6, cond_false]; first | done | rfl
              rw [e]
              exact FSat.done pfT (fuel := 10) (hs := (hR 4 (hT :: hE :: hE :: hE :: hT :: (hR 4 (hT :: (hR 4 (hT :: (hR 4 (hT :: (hR 4 (hF :: (hR 6 [])))))))))))) (ss := []) (R := [(decide (t_0.Light ≥ 0)) = true, (decide (t_0.Light ≤ 100)) = true, (decide (t_0.Browse ≥ 0)) = true, (decide (t_0.Browse ≤ 100)) = true, (decide (t_0.Mild ≥ 0)) = true, (decide (t_0.Mild ≤ 100)) = false]) (by kernel_rfl) ⟨h1, h2, h3, h4, h5, h6, trivial⟩ (by kernel_rfl)
          · skip
            have e : law02_right t_0 = false := by unfold law02_right; rw [h1, cond_true, h2, cond_true, h3, cond_true, h4, cond_true, h5, cond_false]; first | done | rfl
            rw [e]
            exact FSat.done pfT (fuel := 10) (hs := (hR 4 (hT :: hE :: hE :: hE :: hT :: (hR 4 (hT :: (hR 4 (hT :: (hR 4 (hF :: (hR 8 [])))))))))) (ss := []) (R := [(decide (t_0.Light ≥ 0)) = true, (decide (t_0.Light ≤ 100)) = true, (decide (t_0.Browse ≥ 0)) = true, (decide (t_0.Browse ≤ 100)) = true, (decide (t_0.Mild ≥ 0)) = false]) (by kernel_rfl) ⟨h1, h2, h3, h4, h5, trivial⟩ (by kernel_rfl)
        · skip
          have e : law02_right t_0 = false := by unfold law02_right; rw [h1, cond_true, h2, cond_true, h3, cond_true, h4, cond_false]; first | done | rfl
          rw [e]
          exact FSat.done pfT (fuel := 10) (hs := (hR 4 (hT :: hE :: hE :: hE :: hT :: (hR 4 (hT :: (hR 4 (hF :: (hR 10 [])))))))) (ss := []) (R := [(decide (t_0.Light ≥ 0)) = true, (decide (t_0.Light ≤ 100)) = true, (decide (t_0.Browse ≥ 0)) = true, (decide (t_0.Browse ≤ 100)) = false]) (by kernel_rfl) ⟨h1, h2, h3, h4, trivial⟩ (by kernel_rfl)
      · skip
        have e : law02_right t_0 = false := by unfold law02_right; rw [h1, cond_true, h2, cond_true, h3, cond_false]; first | done | rfl
        rw [e]
        exact FSat.done pfT (fuel := 10) (hs := (hR 4 (hT :: hE :: hE :: hE :: hT :: (hR 4 (hF :: (hR 12 [])))))) (ss := []) (R := [(decide (t_0.Light ≥ 0)) = true, (decide (t_0.Light ≤ 100)) = true, (decide (t_0.Browse ≥ 0)) = false]) (by kernel_rfl) ⟨h1, h2, h3, trivial⟩ (by kernel_rfl)
    · skip
      have e : law02_right t_0 = false := by unfold law02_right; rw [h1, cond_true, h2, cond_false]; first | done | rfl
      rw [e]
      exact FSat.done pfT (fuel := 10) (hs := (hR 4 (hT :: hE :: hE :: hE :: hF :: (hR 14 [])))) (ss := []) (R := [(decide (t_0.Light ≥ 0)) = true, (decide (t_0.Light ≤ 100)) = false]) (by kernel_rfl) ⟨h1, h2, trivial⟩ (by kernel_rfl)
  · skip
    have e : law02_right t_0 = false := by unfold law02_right; rw [h1, cond_false]; first | done | rfl
    rw [e]
    exact FSat.done pfT (fuel := 10) (hs := (hR 4 (hF :: (hR 15 [])))) (ss := []) (R := [(decide (t_0.Light ≥ 0)) = false]) (by kernel_rfl) ⟨h1, trivial⟩ (by kernel_rfl)

/- greenhew/greenhewref02.in -/
abbrev A_ref02_in (n : Int) (low : Int) (high : Int) : List Value := [I (n), I (low), I (high)]
noncomputable def ref02_in (n : Int) (low : Int) (high : Int) : Bool :=
  bif decide (n ≥ low) then decide (n ≤ high)
  else false
theorem ref02_in_fc (n : Int) (low : Int) (high : Int) : FC P GG 63 [I (n), I (low), I (high)] [] (.bool (ref02_in n low high)) := by
  refine FC.of_fsat 15 100 Tryd.func63 (by kernel_rfl) (by kernel_rfl) (by kernel_rfl) trivial ?_
  rcases Bool.eq_false_or_eq_true (decide (n ≥ low)) with h1 | h1
  · skip
    have e : ref02_in n low high = decide (n ≤ high) := by unfold ref02_in; rw [h1, cond_true]; first | done | rfl
    rw [e]
    exact FSat.done pfT (fuel := 10) (hs := (hE :: hE :: hE :: hT :: (hR 6 []))) (ss := []) (R := [(decide (n ≥ low)) = true]) (by kernel_rfl) ⟨h1, trivial⟩ (by kernel_rfl)
  · skip
    have e : ref02_in n low high = false := by unfold ref02_in; rw [h1, cond_false]; first | done | rfl
    rw [e]
    exact FSat.done pfT (fuel := 10) (hs := [hE, hE, hE, hF, hE, hE, hE]) (ss := []) (R := [(decide (n ≥ low)) = false]) (by kernel_rfl) ⟨h1, trivial⟩ (by kernel_rfl)

/- greenhew/greenhewref02.table -/
abbrev ref02_table_r0 (l : List Int) (v5 : Int) : Prop := RowLd P 3 (encL cInt l) (0 + v5.toNat * 1) (I ((at_ 0 l v5)))
abbrev ref02_table_r1 (l : List Int) (most : Int) (v5 : Int) : Prop := FC P GG 63 (A_ref02_in (at_ 0 l v5) 0 most) [] (.bool (ref02_in (at_ 0 l v5) 0 most))
abbrev ref02_table_r2 (l : List Int) : Prop := FC P GG 63 (A_ref02_in ((l.length : Nat) : Int) 1 60) [] (.bool (ref02_in ((l.length : Nat) : Int) 1 60))
abbrev A_ref02_table (l : List Int) (most : Int) (q10 : Nat) : List Value := [.slice (some ⟨10, 0, none⟩) (l.length) (q10), I (most)]
abbrev K_ref02_table (l : List Int) : List (Nat × List Value) := [(10, encL cInt l)]
noncomputable def ref02_table_L (fu : Nat) (l : List Int) (most : Int) : Nat → (Bool → Int → Option Bool)
  | 0 => (fun _ _ => none)
  | fk + 1 => (fun v4 v5 => bif decide (v5 < ((l.length : Nat) : Int)) then (bif decide (0 ≤ v5 ∧ v5 < ((l.length : Nat) : Int)) then (bif ref02_in (at_ 0 l v5) 0 most then ref02_table_L fu l most fk v4 (W (v5 + 1))
        else some false) else none)
      else some (ref02_in ((l.length : Nat) : Int) 1 60))
theorem ref02_table_L_s0 (fu : Nat) (l : List Int) (most : Int) (fk : Nat) (v4 : Bool) (v5 : Int) : ref02_table_L fu l most (fk + 1) v4 v5 = (bif decide (v5 < ((l.length : Nat) : Int)) then (bif decide (0 ≤ v5 ∧ v5 < ((l.length : Nat) : Int)) then (bif ref02_in (at_ 0 l v5) 0 most then ref02_table_L fu l most fk v4 (W (v5 + 1))
        else some false) else none)
      else some (ref02_in ((l.length : Nat) : Int) 1 60)) := rfl
noncomputable def ref02_table (fu : Nat) (l : List Int) (most : Int) : Option Bool :=
  ref02_table_L fu l most fu false 0
theorem ref02_table_L_fs (fu : Nat) (l : List Int) (most : Int) (q10 : Nat) : ∀ fk, (∀ (v4 : Bool) (v5 : Int) (r : Bool), ref02_table_L fu l most fk v4 v5 = some r → FSat P GG Tryd.f62 (.bool (r)) (ids (looses [(10, encL cInt l)])) 22 [.lp (cA (bodyOf Tryd.f62) [1, 0, 1, 0, 0]), .blk 0, .code (cA (bodyOf Tryd.f62) [1, 1])] (tOf 22 [(0, .slice (some ⟨10, 0, none⟩) (l.length) (q10)), (1, I (most)), (4, .bool (v4)), (5, I (v5))]) (mOf 100 [(0, .rom [I (1), I (2), I (3)] .glob), (10, .rom (encL cInt l) .loose)])) := by
  intro fk
  induction fk with
  | zero => exact fun _ _ r hh => by cases hh
  | succ fk ih =>
    · intro v4 v5 r hh
      rcases Bool.eq_false_or_eq_true (decide (v5 < ((l.length : Nat) : Int))) with h1 | h1
      · skip
        rcases Bool.eq_false_or_eq_true (decide (0 ≤ v5 ∧ v5 < ((l.length : Nat) : Int))) with h2 | h2
        rotate_left
        · skip
          have e : ref02_table_L fu l most (fk + 1) v4 v5 = none := by rw [ref02_table_L_s0]; rw [h1, cond_true, h2, cond_false]; first | done | rfl
          rw [e] at hh; cases hh
        · skip
          rcases Bool.eq_false_or_eq_true (ref02_in (at_ 0 l v5) 0 most) with h3 | h3
          · skip
            have e : ref02_table_L fu l most (fk + 1) v4 v5 = ref02_table_L fu l most fk v4 (W (v5 + 1)) := by rw [ref02_table_L_s0]; rw [h1, cond_true, h2, cond_true, h3, cond_true]; first | done | rfl
            rw [e] at hh
            have nx := ih v4 (W (v5 + 1)) r hh
            refine FSat.stop pfT (fuel := 20) (hs := (hE :: hE :: hE :: hT :: hE :: hE :: hX :: (hL (I ((at_ 0 l v5)))) :: hE :: (hB (hC (.bool (ref02_in (at_ 0 l v5) 0 most))) true) :: (hR 4 []))) (ss := [.go, .st [0, 1, 4, 5] [0, 10]]) (R := [(decide (v5 < ((l.length : Nat) : Int))) = true, 0 ≤ v5 ∧ v5 < ((l.length : Nat) : Int), (ref02_table_r0 l v5), (ref02_table_r1 l most v5), (ref02_in (at_ 0 l v5) 0 most) = true]) (by kernel_rfl) ⟨h1, of_decide_eq_true h2, RowLd.part cInt_len _ rfl rfl _ _ (of_decide_eq_true h2) 0 _ rfl (by decide), ref02_in_fc (at_ 0 l v5) 0 most, h3, trivial⟩ 100 (by kernel_rfl) ?_ nx
            exact ⟨PinL.lit (by kernel_rfl), PinL.pf (encL_pf cInt_pf _), trivial⟩
          · skip
            have e : ref02_table_L fu l most (fk + 1) v4 v5 = some false := by rw [ref02_table_L_s0]; rw [h1, cond_true, h2, cond_true, h3, cond_false]; first | done | rfl
            rw [e] at hh
            have hr := Option.some.inj hh
            rw [← hr]
            exact FSat.done pfT (fuel := 19) (hs := [hE, hE, hE, hT, hE, hE, hX, (hL (I ((at_ 0 l v5)))), hE, (hB (hC (.bool (ref02_in (at_ 0 l v5) 0 most))) false), hE, hE]) (ss := [.go]) (R := [(decide (v5 < ((l.length : Nat) : Int))) = true, 0 ≤ v5 ∧ v5 < ((l.length : Nat) : Int), (ref02_table_r0 l v5), (ref02_table_r1 l most v5), (ref02_in (at_ 0 l v5) 0 most) = false]) (by kernel_rfl) ⟨h1, of_decide_eq_true h2, RowLd.part cInt_len _ rfl rfl _ _ (of_decide_eq_true h2) 0 _ rfl (by decide), ref02_in_fc (at_ 0 l v5) 0 most, h3, trivial⟩ (by kernel_rfl)
      · skip
        have e : ref02_table_L fu l most (fk + 1) v4 v5 = some (ref02_in ((l.length : Nat) : Int) 1 60) := by rw [ref02_table_L_s0]; rw [h1, cond_false]; first | done | rfl
        rw [e] at hh
        have hr := Option.some.inj hh
        rw [← hr]
        exact FSat.done pfT (fuel := 14) (hs := [hE, hE, hE, hF, hE, hE, (hC (.bool (ref02_in ((l.length : Nat) : Int) 1 60))), hE]) (ss := [.go]) (R := [(decide (v5 < ((l.length : Nat) : Int))) = false, (ref02_table_r2 l)]) (by kernel_rfl) ⟨h1, ref02_in_fc ((l.length : Nat) : Int) 1 60, trivial⟩ (by kernel_rfl)
theorem ref02_table_fc (fu : Nat) (l : List Int) (most : Int) (q10 : Nat) (r : Bool) (hh : ref02_table fu l most = some r) : FC P GG 62 [.slice (some ⟨10, 0, none⟩) (l.length) (q10), I (most)] [(10, encL cInt l)] (.bool (r)) := by
  refine FC.of_fsat 22 100 Tryd.func62 (by kernel_rfl) (by kernel_rfl) (by kernel_rfl) ⟨PinL.pf (encL_pf cInt_pf _), trivial⟩ ?_
  have e : ref02_table fu l most = ref02_table_L fu l most fu false 0 := by unfold ref02_table; rfl
  rw [e] at hh
  have nx := ref02_table_L_fs fu l most q10 fu false 0 r hh
  refine FSat.stop pfT (fuel := 13) (hs := [hE, hE]) (ss := [.st [0, 1, 4, 5] [0, 10]]) (R := []) (by kernel_rfl) trivial 100 (by kernel_rfl) ?_ nx
  exact ⟨PinL.lit (by kernel_rfl), PinL.pf (encL_pf cInt_pf _), trivial⟩

/- greenhew/greenhewref02.Span -/
abbrev ref02_Span_r0 (s : XSpan) : Prop := FC P GG 63 (A_ref02_in s.Low 0 s.High) [] (.bool (ref02_in s.Low 0 s.High))
abbrev A_ref02_Span (s : XSpan) (most : Int) : List Value := [.agg #[I (s.Low), I (s.High)], I (most)]
noncomputable def ref02_Span (s : XSpan) (most : Int) : Bool :=
  bif ref02_in s.Low 0 s.High then decide (s.High ≤ most)
  else false
theorem ref02_Span_fc (s : XSpan) (most : Int) : FC P GG 64 [.agg #[I (s.Low), I (s.High)], I (most)] [] (.bool (ref02_Span s most)) := by
  refine FC.of_fsat 16 100 Tryd.func64 (by kernel_rfl) (by kernel_rfl) (by kernel_rfl) trivial ?_
  rcases Bool.eq_false_or_eq_true (ref02_in s.Low 0 s.High) with h1 | h1
  · skip
    have e : ref02_Span s most = decide (s.High ≤ most) := by unfold ref02_Span; rw [h1, cond_true]; first | done | rfl
    rw [e]
    exact FSat.done pfT (fuel := 10) (hs := (hR 6 ((hB (hC (.bool (ref02_in s.Low 0 s.High))) true) :: (hR 7 [])))) (ss := []) (R := [(ref02_Span_r0 s), (ref02_in s.Low 0 s.High) = true]) (by kernel_rfl) ⟨ref02_in_fc s.Low 0 s.High, h1, trivial⟩ (by kernel_rfl)
  · skip
    have e : ref02_Span s most = false := by unfold ref02_Span; rw [h1, cond_false]; first | done | rfl
    rw [e]
    exact FSat.done pfT (fuel := 10) (hs := (hR 6 [(hB (hC (.bool (ref02_in s.Low 0 s.High))) false), hE, hE, hE])) (ss := []) (R := [(ref02_Span_r0 s), (ref02_in s.Low 0 s.High) = false]) (by kernel_rfl) ⟨ref02_in_fc s.Low 0 s.High, h1, trivial⟩ (by kernel_rfl)

/- greenhew/greenhewref02.Species -/
noncomputable abbrev ref02_Species_i0 (s : XSpecies) (v3 : Int) : Hint := (hL (.agg #[I ((at_ zXRung s.Ladder v3).Height), I ((at_ zXRung s.Ladder v3).Shoots)]))
noncomputable abbrev ref02_Species_i1 (s : XSpecies) (v3 : Int) : Hint := (hB (hC (.bool (ref02_in ((at_ zXRung s.Ladder v3).Height) 1 40000))) true)
noncomputable abbrev ref02_Species_i2 (s : XSpecies) (v3 : Int) : Hint := (hB (hC (.bool (ref02_in ((at_ zXRung s.Ladder v3).Shoots) 0 300))) true)
abbrev ref02_Species_r3 (s : XSpecies) (v3 : Int) : Prop := RowLd P 119 (encL cXRung s.Ladder) (0 + v3.toNat * 2) (.agg #[I ((at_ zXRung s.Ladder v3).Height), I ((at_ zXRung s.Ladder v3).Shoots)])
abbrev ref02_Species_r4 (s : XSpecies) (v3 : Int) : Prop := FC P GG 63 (A_ref02_in ((at_ zXRung s.Ladder v3).Height) 1 40000) [] (.bool (ref02_in ((at_ zXRung s.Ladder v3).Height) 1 40000))
abbrev ref02_Species_r5 (s : XSpecies) (v3 : Int) : Prop := FC P GG 63 (A_ref02_in ((at_ zXRung s.Ladder v3).Shoots) 0 300) [] (.bool (ref02_in ((at_ zXRung s.Ladder v3).Shoots) 0 300))
abbrev ref02_Species_r6 (s : XSpecies) (v3 : Int) : Prop := 0 ≤ (W (v3 - 1)) ∧ (W (v3 - 1)) < ((s.Ladder.length : Nat) : Int)
abbrev ref02_Species_r7 (s : XSpecies) (v3 : Int) : Prop := RowLd P 3 (encL cXRung s.Ladder) (0 + (W (v3 - 1)).toNat * 2) (I ((at_ zXRung s.Ladder (W (v3 - 1))).Height))
abbrev ref02_Species_r8 (s : XSpecies) (v3 : Int) : Prop := (decide (((at_ zXRung s.Ladder v3).Height) ≤ ((at_ zXRung s.Ladder (W (v3 - 1))).Height))) = true
abbrev ref02_Species_r9 (s : XSpecies) (v3 : Int) : Prop := (decide (((at_ zXRung s.Ladder v3).Height) ≤ ((at_ zXRung s.Ladder (W (v3 - 1))).Height))) = false
abbrev ref02_Species_r10 (s : XSpecies) (v3 : Int) : Prop := RowLd P 3 (encL cXRung s.Ladder) (0 + (W (v3 - 1)).toNat * 2 + 1) (I ((at_ zXRung s.Ladder (W (v3 - 1))).Shoots))
abbrev ref02_Species_r11 (s : XSpecies) (v3 : Int) : Prop := (decide (((at_ zXRung s.Ladder v3).Shoots) ≥ ((at_ zXRung s.Ladder (W (v3 - 1))).Shoots))) = true
abbrev ref02_Species_r12 (s : XSpecies) (v3 : Int) : Prop := (decide (((at_ zXRung s.Ladder v3).Shoots) ≥ ((at_ zXRung s.Ladder (W (v3 - 1))).Shoots))) = false
noncomputable abbrev ref02_Species_i13 (s : XSpecies) (v3 : Int) : Hint := (hB (hC (.bool (ref02_in ((at_ zXRung s.Ladder v3).Shoots) 0 300))) false)
noncomputable abbrev ref02_Species_i14 (s : XSpecies) (v3 : Int) : Hint := (hB (hC (.bool (ref02_in ((at_ zXRung s.Ladder v3).Height) 1 40000))) false)
abbrev ref02_Species_r15 (s : XSpecies) (v3 : Int) : Prop := (ref02_in ((at_ zXRung s.Ladder v3).Height) 1 40000) = false
noncomputable abbrev ref02_Species_i16 (s : XSpecies) (v5_1 : Int) : Hint := (hL (.agg #[I ((at_ zXSpan s.Sprouts v5_1).Low), I ((at_ zXSpan s.Sprouts v5_1).High)]))
noncomputable abbrev ref02_Species_i17 (s : XSpecies) (v5_1 : Int) : Hint := (hB (hC (.bool (ref02_Span (at_ zXSpan s.Sprouts v5_1) 300))) true)
abbrev ref02_Species_r18 (s : XSpecies) (v5_1 : Int) : Prop := RowLd P 56 (encL cXSpan s.Sprouts) (0 + v5_1.toNat * 2) (.agg #[I ((at_ zXSpan s.Sprouts v5_1).Low), I ((at_ zXSpan s.Sprouts v5_1).High)])
abbrev ref02_Species_r19 (s : XSpecies) (v5_1 : Int) : Prop := FC P GG 64 (A_ref02_Span (at_ zXSpan s.Sprouts v5_1) 300) [] (.bool (ref02_Span (at_ zXSpan s.Sprouts v5_1) 300))
noncomputable abbrev ref02_Species_i20 (s : XSpecies) (v5_1 : Int) : Hint := (hB (hC (.bool (ref02_Span (at_ zXSpan s.Sprouts v5_1) 300))) false)
noncomputable abbrev ref02_Species_i21 (s : XSpecies) (q10 : Nat) (x1 : Bool) : Hint := (hB (hM (.bool (x1)) (.bool (x1)) (A_ref02_table s.Rise 5000 q10) (K_ref02_table s.Rise) [(10, 10, 0)]) true)
noncomputable abbrev ref02_Species_i22 (s : XSpecies) (q11 : Nat) (x3 : Bool) : Hint := (hB (hM (.bool (x3)) (.bool (x3)) (A_ref02_table s.Thick 300 q11) (K_ref02_table s.Thick) [(10, 11, 0)]) true)
abbrev ref02_Species_r23 (s : XSpecies) (q10 : Nat) (x1 : Bool) : Prop := FC P GG 62 (A_ref02_table s.Rise 5000 q10) (K_ref02_table s.Rise) (.bool (x1))
abbrev ref02_Species_r24 (s : XSpecies) (q10 : Nat) : Prop := VRs (Ren.emb [(10, 10, 0)]) (A_ref02_table s.Rise 5000 q10) [.slice (some ⟨10, 0, none⟩) (s.Rise.length) (q10), I (5000)]
abbrev ref02_Species_r25 (s : XSpecies) : Prop := MemAt (Ren.emb [(10, 10, 0)]) (encL cInt s.Rise) 0 (encL cInt s.Rise) ∧ True
abbrev ref02_Species_r26 (s : XSpecies) (q11 : Nat) (x3 : Bool) : Prop := FC P GG 62 (A_ref02_table s.Thick 300 q11) (K_ref02_table s.Thick) (.bool (x3))
abbrev ref02_Species_r27 (s : XSpecies) (q11 : Nat) : Prop := VRs (Ren.emb [(10, 11, 0)]) (A_ref02_table s.Thick 300 q11) [.slice (some ⟨11, 0, none⟩) (s.Thick.length) (q11), I (300)]
abbrev ref02_Species_r28 (s : XSpecies) : Prop := MemAt (Ren.emb [(10, 11, 0)]) (encL cInt s.Thick) 0 (encL cInt s.Thick) ∧ True
abbrev ref02_Species_r29 (s : XSpecies) : Prop := FC P GG 63 (A_ref02_in s.Top 1 40000) [] (.bool (ref02_in s.Top 1 40000))
abbrev ref02_Species_r30 (s : XSpecies) : Prop := FC P GG 63 (A_ref02_in s.Stout 1 3000) [] (.bool (ref02_in s.Stout 1 3000))
abbrev ref02_Species_r31 (s : XSpecies) : Prop := FC P GG 63 (A_ref02_in s.Shade 0 99) [] (.bool (ref02_in s.Shade 0 99))
abbrev ref02_Species_r32 (s : XSpecies) : Prop := FC P GG 63 (A_ref02_in s.Reach 0 40000) [] (.bool (ref02_in s.Reach 0 40000))
theorem ref02_Species_p33 (s : XSpecies) (q10 : Nat) : (ref02_Species_r24 s q10) := (.cons _ _ _ _ (.slc 10 0 _ _ _ ⟨10, 0, 0, 0⟩ rfl (.inl rfl)) (.cons _ _ _ _ (VR.of_pf rfl) .nil))
theorem ref02_Species_p34 (s : XSpecies) (q11 : Nat) : (ref02_Species_r27 s q11) := (.cons _ _ _ _ (.slc 10 0 _ _ _ ⟨11, 0, 0, 0⟩ rfl (.inl rfl)) (.cons _ _ _ _ (VR.of_pf rfl) .nil))
noncomputable abbrev ref02_Species_i35 (s : XSpecies) : Hint := (hB (hC (.bool (ref02_in ((s.Sprouts.length : Nat) : Int) 1 60))) true)
abbrev ref02_Species_r36 (s : XSpecies) : Prop := FC P GG 63 (A_ref02_in ((s.Sprouts.length : Nat) : Int) 1 60) [] (.bool (ref02_in ((s.Sprouts.length : Nat) : Int) 1 60))
noncomputable abbrev ref02_Species_i37 (s : XSpecies) : Hint := (hB (hC (.bool (ref02_in ((s.Sprouts.length : Nat) : Int) 1 60))) false)
noncomputable abbrev ref02_Species_i38 (s : XSpecies) (q11 : Nat) (x3 : Bool) : Hint := (hB (hM (.bool (x3)) (.bool (x3)) (A_ref02_table s.Thick 300 q11) (K_ref02_table s.Thick) [(10, 11, 0)]) false)
noncomputable abbrev ref02_Species_i39 (s : XSpecies) (q10 : Nat) (x1 : Bool) : Hint := (hB (hM (.bool (x1)) (.bool (x1)) (A_ref02_table s.Rise 5000 q10) (K_ref02_table s.Rise) [(10, 10, 0)]) false)
abbrev A_ref02_Species (s : XSpecies) (q10 : Nat) (q11 : Nat) (q12 : Nat) (q13 : Nat) : List Value := [.agg #[.slice (some ⟨10, 0, none⟩) (s.Rise.length) (q10), .slice (some ⟨11, 0, none⟩) (s.Thick.length) (q11), I (s.Top), I (s.Stout), I (s.Shade), I (s.Reach), .slice (some ⟨12, 0, none⟩) (s.Ladder.length) (q12), .slice (some ⟨13, 0, none⟩) (s.Sprouts.length) (q13)]]
abbrev K_ref02_Species (s : XSpecies) : List (Nat × List Value) := [(10, encL cInt s.Rise), (11, encL cInt s.Thick), (12, encL cXRung s.Ladder), (13, encL cXSpan s.Sprouts)]
noncomputable def ref02_Species_L (fu : Nat) (s : XSpecies) : Nat → (Bool → Int → Option Bool) × (Bool → Int → Option Bool)
  | 0 => (fun _ _ => none, fun _ _ => none)
  | fk + 1 => (fun v2 v3 => bif decide (v3 < ((s.Ladder.length : Nat) : Int)) then (bif decide (0 ≤ v3 ∧ v3 < ((s.Ladder.length : Nat) : Int)) then (bif ref02_in ((at_ zXRung s.Ladder v3).Height) 1 40000 then (bif ref02_in ((at_ zXRung s.Ladder v3).Shoots) 0 300 then (bif decide (v3 > 0) then (bif decide (0 ≤ (W (v3 - 1)) ∧ (W (v3 - 1)) < ((s.Ladder.length : Nat) : Int)) then (bif decide (((at_ zXRung s.Ladder v3).Height) ≤ ((at_ zXRung s.Ladder (W (v3 - 1))).Height)) then some false
              else (bif decide (((at_ zXRung s.Ladder v3).Shoots) ≥ ((at_ zXRung s.Ladder (W (v3 - 1))).Shoots)) then some false
                else (ref02_Species_L fu s fk).1 v2 (W (v3 + 1)))) else none)
            else (ref02_Species_L fu s fk).1 v2 (W (v3 + 1)))
          else some false)
        else some false) else none)
      else (ref02_Species_L fu s fk).2 v2 0,
    fun v2_1 v5_1 => bif decide (v5_1 < ((s.Sprouts.length : Nat) : Int)) then (bif decide (0 ≤ v5_1 ∧ v5_1 < ((s.Sprouts.length : Nat) : Int)) then (bif ref02_Span (at_ zXSpan s.Sprouts v5_1) 300 then (ref02_Species_L fu s fk).2 v2_1 (W (v5_1 + 1))
        else some false) else none)
      else some true)
theorem ref02_Species_L_s0 (fu : Nat) (s : XSpecies) (fk : Nat) (v2 : Bool) (v3 : Int) : (ref02_Species_L fu s (fk + 1)).1 v2 v3 = (bif decide (v3 < ((s.Ladder.length : Nat) : Int)) then (bif decide (0 ≤ v3 ∧ v3 < ((s.Ladder.length : Nat) : Int)) then (bif ref02_in ((at_ zXRung s.Ladder v3).Height) 1 40000 then (bif ref02_in ((at_ zXRung s.Ladder v3).Shoots) 0 300 then (bif decide (v3 > 0) then (bif decide (0 ≤ (W (v3 - 1)) ∧ (W (v3 - 1)) < ((s.Ladder.length : Nat) : Int)) then (bif decide (((at_ zXRung s.Ladder v3).Height) ≤ ((at_ zXRung s.Ladder (W (v3 - 1))).Height)) then some false
              else (bif decide (((at_ zXRung s.Ladder v3).Shoots) ≥ ((at_ zXRung s.Ladder (W (v3 - 1))).Shoots)) then some false
                else (ref02_Species_L fu s fk).1 v2 (W (v3 + 1)))) else none)
            else (ref02_Species_L fu s fk).1 v2 (W (v3 + 1)))
          else some false)
        else some false) else none)
      else (ref02_Species_L fu s fk).2 v2 0) := rfl
theorem ref02_Species_L_s1 (fu : Nat) (s : XSpecies) (fk : Nat) (v2_1 : Bool) (v5_1 : Int) : (ref02_Species_L fu s (fk + 1)).2 v2_1 v5_1 = (bif decide (v5_1 < ((s.Sprouts.length : Nat) : Int)) then (bif decide (0 ≤ v5_1 ∧ v5_1 < ((s.Sprouts.length : Nat) : Int)) then (bif ref02_Span (at_ zXSpan s.Sprouts v5_1) 300 then (ref02_Species_L fu s fk).2 v2_1 (W (v5_1 + 1))
        else some false) else none)
      else some true) := rfl
noncomputable def ref02_Species (fu : Nat) (s : XSpecies) : Option Bool :=
  Option.bind (ref02_table fu s.Rise 5000) fun x1 =>
  bif x1 then (Option.bind (ref02_table fu s.Thick 300) fun x3 =>
    bif x3 then (bif ref02_in s.Top 1 40000 then (bif ref02_in s.Stout 1 3000 then (bif ref02_in s.Shade 0 99 then (bif ref02_in s.Reach 0 40000 then (bif decide (((s.Ladder.length : Nat) : Int) > 20) then some false
              else (bif ref02_in ((s.Sprouts.length : Nat) : Int) 1 60 then (ref02_Species_L fu s fu).1 false 0
                else some false))
            else some false)
          else some false)
        else some false)
      else some false)
    else some false)
  else some false
theorem ref02_Species_L_fs (fu : Nat) (s : XSpecies) (q10 q11 q12 q13 : Nat) : ∀ fk, (∀ (v2 : Bool) (v3 : Int) (r : Bool), (ref02_Species_L fu s fk).1 v2 v3 = some r → FSat P GG Tryd.f22 (.bool (r)) (ids (looses [(10, encL cInt s.Rise), (11, encL cInt s.Thick), (12, encL cXRung s.Ladder), (13, encL cXSpan s.Sprouts)])) 117 [.lp (cA (bodyOf Tryd.f22) [1, 1, 0, 1, 0, 0]), .blk 0, .code (cA (bodyOf Tryd.f22) [1, 1, 1])] (tOf 117 [(1, .pointer (some ⟨100, 0, none⟩)), (2, .bool (v2)), (3, I (v3))]) (mOf 101 [(0, .rom [I (1), I (2), I (3)] .glob), (10, .rom (encL cInt s.Rise) .loose), (11, .rom (encL cInt s.Thick) .loose), (12, .rom (encL cXRung s.Ladder) .loose), (13, .rom (encL cXSpan s.Sprouts) .loose), (100, .row [.slice (some ⟨10, 0, none⟩) (s.Rise.length) (q10), .slice (some ⟨11, 0, none⟩) (s.Thick.length) (q11), I (s.Top), I (s.Stout), I (s.Shade), I (s.Reach), .slice (some ⟨12, 0, none⟩) (s.Ladder.length) (q12), .slice (some ⟨13, 0, none⟩) (s.Sprouts.length) (q13)] 0)])) ∧ (∀ (v2_1 : Bool) (v5_1 : Int) (r : Bool), (ref02_Species_L fu s fk).2 v2_1 v5_1 = some r → FSat P GG Tryd.f22 (.bool (r)) (ids (looses [(10, encL cInt s.Rise), (11, encL cInt s.Thick), (12, encL cXRung s.Ladder), (13, encL cXSpan s.Sprouts)])) 117 [.lp (cA (bodyOf Tryd.f22) [1, 1, 1, 0, 1, 0, 0]), .blk 2, .code (cA (bodyOf Tryd.f22) [1, 1, 1, 1])] (tOf 117 [(1, .pointer (some ⟨100, 0, none⟩)), (2, .bool (v2_1)), (5, I (v5_1))]) (mOf 101 [(0, .rom [I (1), I (2), I (3)] .glob), (10, .rom (encL cInt s.Rise) .loose), (11, .rom (encL cInt s.Thick) .loose), (12, .rom (encL cXRung s.Ladder) .loose), (13, .rom (encL cXSpan s.Sprouts) .loose), (100, .row [.slice (some ⟨10, 0, none⟩) (s.Rise.length) (q10), .slice (some ⟨11, 0, none⟩) (s.Thick.length) (q11), I (s.Top), I (s.Stout), I (s.Shade), I (s.Reach), .slice (some ⟨12, 0, none⟩) (s.Ladder.length) (q12), .slice (some ⟨13, 0, none⟩) (s.Sprouts.length) (q13)] 0)])) := by
  intro fk
  induction fk with
  | zero => exact ⟨(fun _ _ r hh => by cases hh), (fun _ _ r hh => by cases hh)⟩
  | succ fk ih =>
    refine ⟨?_, ?_⟩
    · intro v2 v3 r hh
      rcases Bool.eq_false_or_eq_true (decide (v3 < ((s.Ladder.length : Nat) : Int))) with h1 | h1
      · skip
        rcases Bool.eq_false_or_eq_true (decide (0 ≤ v3 ∧ v3 < ((s.Ladder.length : Nat) : Int))) with h2 | h2
        rotate_left
        · skip
          have e : (ref02_Species_L fu s (fk + 1)).1 v2 v3 = none := by rw [ref02_Species_L_s0]; rw [h1, cond_true, h2, cond_false]; first | done | rfl
          rw [e] at hh; cases hh
        · skip
          rcases Bool.eq_false_or_eq_true (ref02_in ((at_ zXRung s.Ladder v3).Height) 1 40000) with h3 | h3
          · skip
            rcases Bool.eq_false_or_eq_true (ref02_in ((at_ zXRung s.Ladder v3).Shoots) 0 300) with h4 | h4
            · skip
              rcases Bool.eq_false_or_eq_true (decide (v3 > 0)) with h5 | h5
              · skip
                rcases Bool.eq_false_or_eq_true (decide (0 ≤ (W (v3 - 1)) ∧ (W (v3 - 1)) < ((s.Ladder.length : Nat) : Int))) with h6 | h6
                rotate_left
                · skip
                  have e : (ref02_Species_L fu s (fk + 1)).1 v2 v3 = none := by rw [ref02_Species_L_s0]; rw [h1, cond_true, h2, cond_true, h3, cond_true, h4, cond_true, h5, cond_true, h6, cond_false]; first | done | rfl
                  rw [e] at hh; cases hh
                · skip
                  rcases Bool.eq_false_or_eq_true (decide (((at_ zXRung s.Ladder v3).Height) ≤ ((at_ zXRung s.Ladder (W (v3 - 1))).Height))) with h7 | h7
                  · skip
                    have e : (ref02_Species_L fu s (fk + 1)).1 v2 v3 = some false := by rw [ref02_Species_L_s0]; rw [h1, cond_true, h2, cond_true, h3, cond_true, h4, cond_true, h5, cond_true, h6, cond_true, h7, cond_true]; first | done | rfl
                    rw [e] at hh
                    have hr := Option.some.inj hh
                    rw [← hr]
                    exact FSat.done pfT (fuel := 21) (hs := (hR 4 (hT :: hE :: hE :: hE :: hX :: (ref02_Species_i0 s v3) :: (hR 4 ((ref02_Species_i1 s v3) :: (hR 4 ((ref02_Species_i2 s v3) :: (hR 4 (hT :: (hR 7 (hX :: hE :: (hL (I ((at_ zXRung s.Ladder (W (v3 - 1))).Height))) :: hT :: (hR 5 [])))))))))))) (ss := [.go]) (R := [(decide (v3 < ((s.Ladder.length : Nat) : Int))) = true, 0 ≤ v3 ∧ v3 < ((s.Ladder.length : Nat) : Int), (ref02_Species_r3 s v3), (ref02_Species_r4 s v3), (ref02_in ((at_ zXRung s.Ladder v3).Height) 1 40000) = true, (ref02_Species_r5 s v3), (ref02_in ((at_ zXRung s.Ladder v3).Shoots) 0 300) = true, (decide (v3 > 0)) = true, (ref02_Species_r6 s v3), (ref02_Species_r7 s v3), (ref02_Species_r8 s v3)]) (by kernel_rfl) ⟨h1, of_decide_eq_true h2, RowLd.elem cXRung_len _ (.inl ⟨_, rfl⟩) rfl rfl _ _ (of_decide_eq_true h2), ref02_in_fc ((at_ zXRung s.Ladder v3).Height) 1 40000, h3, ref02_in_fc ((at_ zXRung s.Ladder v3).Shoots) 0 300, h4, h5, of_decide_eq_true h6, RowLd.part cXRung_len _ rfl rfl _ _ (of_decide_eq_true h6) 0 _ rfl (by decide), h7, trivial⟩ (by kernel_rfl)
                  · skip
                    rcases Bool.eq_false_or_eq_true (decide (((at_ zXRung s.Ladder v3).Shoots) ≥ ((at_ zXRung s.Ladder (W (v3 - 1))).Shoots))) with h8 | h8
                    · skip
                      have e : (ref02_Species_L fu s (fk + 1)).1 v2 v3 = some false := by rw [ref02_Species_L_s0]; rw [h1, cond_true, h2, cond_true, h3, cond_true, h4, cond_true, h5, cond_true, h6, cond_true, h7, cond_false, h8, cond_true]; first | done | rfl
                      rw [e] at hh
                      have hr := Option.some.inj hh
                      rw [← hr]
                      exact FSat.done pfT (fuel := 21) (hs := (hR 4 (hT :: hE :: hE :: hE :: hX :: (ref02_Species_i0 s v3) :: (hR 4 ((ref02_Species_i1 s v3) :: (hR 4 ((ref02_Species_i2 s v3) :: (hR 4 (hT :: (hR 7 (hX :: hE :: (hL (I ((at_ zXRung s.Ladder (W (v3 - 1))).Height))) :: hF :: (hR 7 (hX :: hE :: (hL (I ((at_ zXRung s.Ladder (W (v3 - 1))).Shoots))) :: hT :: (hR 4 [])))))))))))))) (ss := [.go]) (R := [(decide (v3 < ((s.Ladder.length : Nat) : Int))) = true, 0 ≤ v3 ∧ v3 < ((s.Ladder.length : Nat) : Int), (ref02_Species_r3 s v3), (ref02_Species_r4 s v3), (ref02_in ((at_ zXRung s.Ladder v3).Height) 1 40000) = true, (ref02_Species_r5 s v3), (ref02_in ((at_ zXRung s.Ladder v3).Shoots) 0 300) = true, (decide (v3 > 0)) = true, (ref02_Species_r6 s v3), (ref02_Species_r7 s v3), (ref02_Species_r9 s v3), (ref02_Species_r6 s v3), (ref02_Species_r10 s v3), (ref02_Species_r11 s v3)]) (by kernel_rfl) ⟨h1, of_decide_eq_true h2, RowLd.elem cXRung_len _ (.inl ⟨_, rfl⟩) rfl rfl _ _ (of_decide_eq_true h2), ref02_in_fc ((at_ zXRung s.Ladder v3).Height) 1 40000, h3, ref02_in_fc ((at_ zXRung s.Ladder v3).Shoots) 0 300, h4, h5, of_decide_eq_true h6, RowLd.part cXRung_len _ rfl rfl _ _ (of_decide_eq_true h6) 0 _ rfl (by decide), h7, of_decide_eq_true h6, RowLd.part cXRung_len _ rfl rfl _ _ (of_decide_eq_true h6) 1 _ rfl (by decide), h8, trivial⟩ (by kernel_rfl)
                    · skip
                      have e : (ref02_Species_L fu s (fk + 1)).1 v2 v3 = (ref02_Species_L fu s fk).1 v2 (W (v3 + 1)) := by rw [ref02_Species_L_s0]; rw [h1, cond_true, h2, cond_true, h3, cond_true, h4, cond_true, h5, cond_true, h6, cond_true, h7, cond_false, h8, cond_false]; first | done | rfl
                      rw [e] at hh
                      have nx := ih.1 v2 (W (v3 + 1)) r hh
                      refine FSat.stop pfT (fuel := 22) (hs := (hR 4 (hT :: hE :: hE :: hE :: hX :: (ref02_Species_i0 s v3) :: (hR 4 ((ref02_Species_i1 s v3) :: (hR 4 ((ref02_Species_i2 s v3) :: (hR 4 (hT :: (hR 7 (hX :: hE :: (hL (I ((at_ zXRung s.Ladder (W (v3 - 1))).Height))) :: hF :: (hR 7 (hX :: hE :: (hL (I ((at_ zXRung s.Ladder (W (v3 - 1))).Shoots))) :: hF :: (hR 6 [])))))))))))))) (ss := [.go, .st [1, 2, 3] [0, 10, 11, 12, 13, 100]]) (R := [(decide (v3 < ((s.Ladder.length : Nat) : Int))) = true, 0 ≤ v3 ∧ v3 < ((s.Ladder.length : Nat) : Int), (ref02_Species_r3 s v3), (ref02_Species_r4 s v3), (ref02_in ((at_ zXRung s.Ladder v3).Height) 1 40000) = true, (ref02_Species_r5 s v3), (ref02_in ((at_ zXRung s.Ladder v3).Shoots) 0 300) = true, (decide (v3 > 0)) = true, (ref02_Species_r6 s v3), (ref02_Species_r7 s v3), (ref02_Species_r9 s v3), (ref02_Species_r6 s v3), (ref02_Species_r10 s v3), (ref02_Species_r12 s v3)]) (by kernel_rfl) ⟨h1, of_decide_eq_true h2, RowLd.elem cXRung_len _ (.inl ⟨_, rfl⟩) rfl rfl _ _ (of_decide_eq_true h2), ref02_in_fc ((at_ zXRung s.Ladder v3).Height) 1 40000, h3, ref02_in_fc ((at_ zXRung s.Ladder v3).Shoots) 0 300, h4, h5, of_decide_eq_true h6, RowLd.part cXRung_len _ rfl rfl _ _ (of_decide_eq_true h6) 0 _ rfl (by decide), h7, of_decide_eq_true h6, RowLd.part cXRung_len _ rfl rfl _ _ (of_decide_eq_true h6) 1 _ rfl (by decide), h8, trivial⟩ 101 (by kernel_rfl) ?_ nx
                      exact ⟨PinL.lit (by kernel_rfl), PinL.pf (encL_pf cInt_pf _), PinL.pf (encL_pf cInt_pf _), PinL.pf (encL_pf cXRung_pf _), PinL.pf (encL_pf cXSpan_pf _), PinL.lit (by kernel_rfl), trivial⟩
              · skip
                have e : (ref02_Species_L fu s (fk + 1)).1 v2 v3 = (ref02_Species_L fu s fk).1 v2 (W (v3 + 1)) := by rw [ref02_Species_L_s0]; rw [h1, cond_true, h2, cond_true, h3, cond_true, h4, cond_true, h5, cond_false]; first | done | rfl
                rw [e] at hh
                have nx := ih.1 v2 (W (v3 + 1)) r hh
                refine FSat.stop pfT (fuel := 22) (hs := (hR 4 (hT :: hE :: hE :: hE :: hX :: (ref02_Species_i0 s v3) :: (hR 4 ((ref02_Species_i1 s v3) :: (hR 4 ((ref02_Species_i2 s v3) :: (hR 4 (hF :: (hR 6 [])))))))))) (ss := [.go, .st [1, 2, 3] [0, 10, 11, 12, 13, 100]]) (R := [(decide (v3 < ((s.Ladder.length : Nat) : Int))) = true, 0 ≤ v3 ∧ v3 < ((s.Ladder.length : Nat) : Int), (ref02_Species_r3 s v3), (ref02_Species_r4 s v3), (ref02_in ((at_ zXRung s.Ladder v3).Height) 1 40000) = true, (ref02_Species_r5 s v3), (ref02_in ((at_ zXRung s.Ladder v3).Shoots) 0 300) = true, (decide (v3 > 0)) = false]) (by kernel_rfl) ⟨h1, of_decide_eq_true h2, RowLd.elem cXRung_len _ (.inl ⟨_, rfl⟩) rfl rfl _ _ (of_decide_eq_true h2), ref02_in_fc ((at_ zXRung s.Ladder v3).Height) 1 40000, h3, ref02_in_fc ((at_ zXRung s.Ladder v3).Shoots) 0 300, h4, h5, trivial⟩ 101 (by kernel_rfl) ?_ nx
                exact ⟨PinL.lit (by kernel_rfl), PinL.pf (encL_pf cInt_pf _), PinL.pf (encL_pf cInt_pf _), PinL.pf (encL_pf cXRung_pf _), PinL.pf (encL_pf cXSpan_pf _), PinL.lit (by kernel_rfl), trivial⟩
            · skip
              have e : (ref02_Species_L fu s (fk + 1)).1 v2 v3 = some false := by rw [ref02_Species_L_s0]; rw [h1, cond_true, h2, cond_true, h3, cond_true, h4, cond_false]; first | done | rfl
              rw [e] at hh
              have hr := Option.some.inj hh
              rw [← hr]
              exact FSat.done pfT (fuel := 21) (hs := (hR 4 (hT :: hE :: hE :: hE :: hX :: (ref02_Species_i0 s v3) :: (hR 4 ((ref02_Species_i1 s v3) :: (hR 4 ((ref02_Species_i13 s v3) :: (hR 5 [])))))))) (ss := [.go]) (R := [(decide (v3 < ((s.Ladder.length : Nat) : Int))) = true, 0 ≤ v3 ∧ v3 < ((s.Ladder.length : Nat) : Int), (ref02_Species_r3 s v3), (ref02_Species_r4 s v3), (ref02_in ((at_ zXRung s.Ladder v3).Height) 1 40000) = true, (ref02_Species_r5 s v3), (ref02_in ((at_ zXRung s.Ladder v3).Shoots) 0 300) = false]) (by kernel_rfl) ⟨h1, of_decide_eq_true h2, RowLd.elem cXRung_len _ (.inl ⟨_, rfl⟩) rfl rfl _ _ (of_decide_eq_true h2), ref02_in_fc ((at_ zXRung s.Ladder v3).Height) 1 40000, h3, ref02_in_fc ((at_ zXRung s.Ladder v3).Shoots) 0 300, h4, trivial⟩ (by kernel_rfl)
          · skip
            have e : (ref02_Species_L fu s (fk + 1)).1 v2 v3 = some false := by rw [ref02_Species_L_s0]; rw [h1, cond_true, h2, cond_true, h3, cond_false]; first | done | rfl
            rw [e] at hh
            have hr := Option.some.inj hh
            rw [← hr]
            exact FSat.done pfT (fuel := 21) (hs := (hR 4 (hT :: hE :: hE :: hE :: hX :: (ref02_Species_i0 s v3) :: (hR 4 ((ref02_Species_i14 s v3) :: (hR 6 [])))))) (ss := [.go]) (R := [(decide (v3 < ((s.Ladder.length : Nat) : Int))) = true, 0 ≤ v3 ∧ v3 < ((s.Ladder.length : Nat) : Int), (ref02_Species_r3 s v3), (ref02_Species_r4 s v3), (ref02_Species_r15 s v3)]) (by kernel_rfl) ⟨h1, of_decide_eq_true h2, RowLd.elem cXRung_len _ (.inl ⟨_, rfl⟩) rfl rfl _ _ (of_decide_eq_true h2), ref02_in_fc ((at_ zXRung s.Ladder v3).Height) 1 40000, h3, trivial⟩ (by kernel_rfl)
      · skip
        have e : (ref02_Species_L fu s (fk + 1)).1 v2 v3 = (ref02_Species_L fu s fk).2 v2 0 := by rw [ref02_Species_L_s0]; rw [h1, cond_false]; first | done | rfl
        rw [e] at hh
        have nx := ih.2 v2 0 r hh
        refine FSat.stop pfT (fuel := 17) (hs := (hR 4 [hF, hE])) (ss := [.go, .st [1, 2, 5] [0, 10, 11, 12, 13, 100]]) (R := [(decide (v3 < ((s.Ladder.length : Nat) : Int))) = false]) (by kernel_rfl) ⟨h1, trivial⟩ 101 (by kernel_rfl) ?_ nx
        exact ⟨PinL.lit (by kernel_rfl), PinL.pf (encL_pf cInt_pf _), PinL.pf (encL_pf cInt_pf _), PinL.pf (encL_pf cXRung_pf _), PinL.pf (encL_pf cXSpan_pf _), PinL.lit (by kernel_rfl), trivial⟩
    · intro v2_1 v5_1 r hh
      rcases Bool.eq_false_or_eq_true (decide (v5_1 < ((s.Sprouts.length : Nat) : Int))) with h1 | h1
      · skip
        rcases Bool.eq_false_or_eq_true (decide (0 ≤ v5_1 ∧ v5_1 < ((s.Sprouts.length : Nat) : Int))) with h2 | h2
        rotate_left
        · skip
          have e : (ref02_Species_L fu s (fk + 1)).2 v2_1 v5_1 = none := by rw [ref02_Species_L_s1]; rw [h1, cond_true, h2, cond_false]; first | done | rfl
          rw [e] at hh; cases hh
        · skip
          rcases Bool.eq_false_or_eq_true (ref02_Span (at_ zXSpan s.Sprouts v5_1) 300) with h3 | h3
          · skip
            have e : (ref02_Species_L fu s (fk + 1)).2 v2_1 v5_1 = (ref02_Species_L fu s fk).2 v2_1 (W (v5_1 + 1)) := by rw [ref02_Species_L_s1]; rw [h1, cond_true, h2, cond_true, h3, cond_true]; first | done | rfl
            rw [e] at hh
            have nx := ih.2 v2_1 (W (v5_1 + 1)) r hh
            refine FSat.stop pfT (fuel := 20) (hs := (hR 4 (hT :: hE :: hE :: hE :: hX :: (ref02_Species_i16 s v5_1) :: (ref02_Species_i17 s v5_1) :: (hR 4 [])))) (ss := [.go, .st [1, 2, 5] [0, 10, 11, 12, 13, 100]]) (R := [(decide (v5_1 < ((s.Sprouts.length : Nat) : Int))) = true, 0 ≤ v5_1 ∧ v5_1 < ((s.Sprouts.length : Nat) : Int), (ref02_Species_r18 s v5_1), (ref02_Species_r19 s v5_1), (ref02_Span (at_ zXSpan s.Sprouts v5_1) 300) = true]) (by kernel_rfl) ⟨h1, of_decide_eq_true h2, RowLd.elem cXSpan_len _ (.inl ⟨_, rfl⟩) rfl rfl _ _ (of_decide_eq_true h2), ref02_Span_fc (at_ zXSpan s.Sprouts v5_1) 300, h3, trivial⟩ 101 (by kernel_rfl) ?_ nx
            exact ⟨PinL.lit (by kernel_rfl), PinL.pf (encL_pf cInt_pf _), PinL.pf (encL_pf cInt_pf _), PinL.pf (encL_pf cXRung_pf _), PinL.pf (encL_pf cXSpan_pf _), PinL.lit (by kernel_rfl), trivial⟩
          · skip
            have e : (ref02_Species_L fu s (fk + 1)).2 v2_1 v5_1 = some false := by rw [ref02_Species_L_s1]; rw [h1, cond_true, h2, cond_true, h3, cond_false]; first | done | rfl
            rw [e] at hh
            have hr := Option.some.inj hh
            rw [← hr]
            exact FSat.done pfT (fuel := 19) (hs := (hR 4 [hT, hE, hE, hE, hX, (ref02_Species_i16 s v5_1), (ref02_Species_i20 s v5_1), hE, hE])) (ss := [.go]) (R := [(decide (v5_1 < ((s.Sprouts.length : Nat) : Int))) = true, 0 ≤ v5_1 ∧ v5_1 < ((s.Sprouts.length : Nat) : Int), (ref02_Species_r18 s v5_1), (ref02_Species_r19 s v5_1), (ref02_Span (at_ zXSpan s.Sprouts v5_1) 300) = false]) (by kernel_rfl) ⟨h1, of_decide_eq_true h2, RowLd.elem cXSpan_len _ (.inl ⟨_, rfl⟩) rfl rfl _ _ (of_decide_eq_true h2), ref02_Span_fc (at_ zXSpan s.Sprouts v5_1) 300, h3, trivial⟩ (by kernel_rfl)
      · skip
        have e : (ref02_Species_L fu s (fk + 1)).2 v2_1 v5_1 = some true := by rw [ref02_Species_L_s1]; rw [h1, cond_false]; first | done | rfl
        rw [e] at hh
        have hr := Option.some.inj hh
        rw [← hr]
        exact FSat.done pfT (fuel := 14) (hs := (hR 4 [hF, hE])) (ss := [.go]) (R := [(decide (v5_1 < ((s.Sprouts.length : Nat) : Int))) = false]) (by kernel_rfl) ⟨h1, trivial⟩ (by kernel_rfl)
theorem ref02_Species_fc (fu : Nat) (s : XSpecies) (q10 q11 q12 q13 : Nat) (r : Bool) (hh : ref02_Species fu s = some r) : FC P GG 22 [.agg #[.slice (some ⟨10, 0, none⟩) (s.Rise.length) (q10), .slice (some ⟨11, 0, none⟩) (s.Thick.length) (q11), I (s.Top), I (s.Stout), I (s.Shade), I (s.Reach), .slice (some ⟨12, 0, none⟩) (s.Ladder.length) (q12), .slice (some ⟨13, 0, none⟩) (s.Sprouts.length) (q13)]] [(10, encL cInt s.Rise), (11, encL cInt s.Thick), (12, encL cXRung s.Ladder), (13, encL cXSpan s.Sprouts)] (.bool (r)) := by
  refine FC.of_fsat 117 100 Tryd.func22 (by kernel_rfl) (by kernel_rfl) (by kernel_rfl) ⟨PinL.pf (encL_pf cInt_pf _), PinL.pf (encL_pf cInt_pf _), PinL.pf (encL_pf cXRung_pf _), PinL.pf (encL_pf cXSpan_pf _), trivial⟩ ?_
  cases h1 : ref02_table fu s.Rise 5000 with
  | none =>
    have e : ref02_Species fu s = none := by unfold ref02_Species; rw [h1, Option.bind_none]; first | done | rfl
    rw [e] at hh; cases hh
  | some x1 =>
    rcases Bool.eq_false_or_eq_true (x1) with h2 | h2
    · skip
      cases h3 : ref02_table fu s.Thick 300 with
      | none =>
        have e : ref02_Species fu s = none := by unfold ref02_Species; rw [h1, Option.bind_some, h2, cond_true, h3, Option.bind_none]; first | done | rfl
        rw [e] at hh; cases hh
      | some x3 =>
        rcases Bool.eq_false_or_eq_true (x3) with h4 | h4
        · skip
          rcases Bool.eq_false_or_eq_true (ref02_in s.Top 1 40000) with h5 | h5
          · skip
            rcases Bool.eq_false_or_eq_true (ref02_in s.Stout 1 3000) with h6 | h6
            · skip
              rcases Bool.eq_false_or_eq_true (ref02_in s.Shade 0 99) with h7 | h7
              · skip
                rcases Bool.eq_false_or_eq_true (ref02_in s.Reach 0 40000) with h8 | h8
                · skip
                  rcases Bool.eq_false_or_eq_true (decide (((s.Ladder.length : Nat) : Int) > 20)) with h9 | h9
                  · skip
                    have e : ref02_Species fu s = some false := by unfold ref02_Species; rw [h1, Option.bind_some, h2, cond_true, h3, Option.bind_some, h4, cond_true, h5, cond_true, h6, cond_true, h7, cond_true, h8, cond_true, h9, cond_true]; first | done | rfl
                    rw [e] at hh
                    have hr := Option.some.inj hh
                    rw [← hr]
                    exact FSat.done pfT (fuel := 14) (hs := (hR 4 ((ref02_Species_i21 s q10 x1) :: (hR 4 ((ref02_Species_i22 s q11 x3) :: (hR 5 ((hB (hC (.bool (ref02_in s.Top 1 40000))) true) :: (hR 5 ((hB (hC (.bool (ref02_in s.Stout 1 3000))) true) :: (hR 5 ((hB (hC (.bool (ref02_in s.Shade 0 99))) true) :: (hR 5 ((hB (hC (.bool (ref02_in s.Reach 0 40000))) true) :: (hR 6 (hT :: (hR 4 [])))))))))))))))) (ss := []) (R := [(ref02_Species_r23 s q10 x1), (ref02_Species_r24 s q10), (ref02_Species_r25 s), VR (Ren.emb [(10, 10, 0)]) (.bool (x1)) (.bool (x1)), (x1) = true, (ref02_Species_r26 s q11 x3), (ref02_Species_r27 s q11), (ref02_Species_r28 s), VR (Ren.emb [(10, 11, 0)]) (.bool (x3)) (.bool (x3)), (x3) = true, (ref02_Species_r29 s), (ref02_in s.Top 1 40000) = true, (ref02_Species_r30 s), (ref02_in s.Stout 1 3000) = true, (ref02_Species_r31 s), (ref02_in s.Shade 0 99) = true, (ref02_Species_r32 s), (ref02_in s.Reach 0 40000) = true, (decide (((s.Ladder.length : Nat) : Int) > 20)) = true]) (by kernel_rfl) ⟨ref02_table_fc fu s.Rise 5000 q10 x1 h1, ref02_Species_p33 s q10, ⟨MemAt.same _ (encL_pf cInt_pf _), trivial⟩, selfB_self 9 _ rfl _, h2, ref02_table_fc fu s.Thick 300 q11 x3 h3, ref02_Species_p34 s q11, ⟨MemAt.same _ (encL_pf cInt_pf _), trivial⟩, selfB_self 9 _ rfl _, h4, ref02_in_fc s.Top 1 40000, h5, ref02_in_fc s.Stout 1 3000, h6, ref02_in_fc s.Shade 0 99, h7, ref02_in_fc s.Reach 0 40000, h8, h9, trivial⟩ (by kernel_rfl)
                  · skip
                    rcases Bool.eq_false_or_eq_true (ref02_in ((s.Sprouts.length : Nat) : Int) 1 60) with h10 | h10
                    · skip
                      have e : ref02_Species fu s = (ref02_Species_L fu s fu).1 false 0 := by unfold ref02_Species; rw [h1, Option.bind_some, h2, cond_true, h3, Option.bind_some, h4, cond_true, h5, cond_true, h6, cond_true, h7, cond_true, h8, cond_true, h9, cond_false, h10, cond_true]; first | done | rfl
                      rw [e] at hh
                      have nx := (ref02_Species_L_fs fu s q10 q11 q12 q13 fu).1 false 0 r hh
                      refine FSat.stop pfT (fuel := 18) (hs := (hR 4 ((ref02_Species_i21 s q10 x1) :: (hR 4 ((ref02_Species_i22 s q11 x3) :: (hR 5 ((hB (hC (.bool (ref02_in s.Top 1 40000))) true) :: (hR 5 ((hB (hC (.bool (ref02_in s.Stout 1 3000))) true) :: (hR 5 ((hB (hC (.bool (ref02_in s.Shade 0 99))) true) :: (hR 5 ((hB (hC (.bool (ref02_in s.Reach 0 40000))) true) :: (hR 6 (hF :: (hR 5 [(ref02_Species_i35 s), hE, hE, hE])))))))))))))))) (ss := [.st [1, 2, 3] [0, 10, 11, 12, 13, 100]]) (R := [(ref02_Species_r23 s q10 x1), (ref02_Species_r24 s q10), (ref02_Species_r25 s), VR (Ren.emb [(10, 10, 0)]) (.bool (x1)) (.bool (x1)), (x1) = true, (ref02_Species_r26 s q11 x3), (ref02_Species_r27 s q11), (ref02_Species_r28 s), VR (Ren.emb [(10, 11, 0)]) (.bool (x3)) (.bool (x3)), (x3) = true, (ref02_Species_r29 s), (ref02_in s.Top 1 40000) = true, (ref02_Species_r30 s), (ref02_in s.Stout 1 3000) = true, (ref02_Species_r31 s), (ref02_in s.Shade 0 99) = true, (ref02_Species_r32 s), (ref02_in s.Reach 0 40000) = true, (decide (((s.Ladder.length : Nat) : Int) > 20)) = false, (ref02_Species_r36 s), (ref02_in ((s.Sprouts.length : Nat) : Int) 1 60) = true]) (by kernel_rfl) ⟨ref02_table_fc fu s.Rise 5000 q10 x1 h1, ref02_Species_p33 s q10, ⟨MemAt.same _ (encL_pf cInt_pf _), trivial⟩, selfB_self 9 _ rfl _, h2, ref02_table_fc fu s.Thick 300 q11 x3 h3, ref02_Species_p34 s q11, ⟨MemAt.same _ (encL_pf cInt_pf _), trivial⟩, selfB_self 9 _ rfl _, h4, ref02_in_fc s.Top 1 40000, h5, ref02_in_fc s.Stout 1 3000, h6, ref02_in_fc s.Shade 0 99, h7, ref02_in_fc s.Reach 0 40000, h8, h9, ref02_in_fc ((s.Sprouts.length : Nat) : Int) 1 60, h10, trivial⟩ 101 (by kernel_rfl) ?_ nx
                      exact ⟨PinL.lit (by kernel_rfl), PinL.pf (encL_pf cInt_pf _), PinL.pf (encL_pf cInt_pf _), PinL.pf (encL_pf cXRung_pf _), PinL.pf (encL_pf cXSpan_pf _), PinL.lit (by kernel_rfl), trivial⟩
                    · skip
                      have e : ref02_Species fu s = some false := by unfold ref02_Species; rw [h1, Option.bind_some, h2, cond_true, h3, Option.bind_some, h4, cond_true, h5, cond_true, h6, cond_true, h7, cond_true, h8, cond_true, h9, cond_false, h10, cond_false]; first | done | rfl
                      rw [e] at hh
                      have hr := Option.some.inj hh
                      rw [← hr]
                      exact FSat.done pfT (fuel := 14) (hs := (hR 4 ((ref02_Species_i21 s q10 x1) :: (hR 4 ((ref02_Species_i22 s q11 x3) :: (hR 5 ((hB (hC (.bool (ref02_in s.Top 1 40000))) true) :: (hR 5 ((hB (hC (.bool (ref02_in s.Stout 1 3000))) true) :: (hR 5 ((hB (hC (.bool (ref02_in s.Shade 0 99))) true) :: (hR 5 ((hB (hC (.bool (ref02_in s.Reach 0 40000))) true) :: (hR 6 (hF :: (hR 5 [(ref02_Species_i37 s), hE, hE, hE])))))))))))))))) (ss := []) (R := [(ref02_Species_r23 s q10 x1), (ref02_Species_r24 s q10), (ref02_Species_r25 s), VR (Ren.emb [(10, 10, 0)]) (.bool (x1)) (.bool (x1)), (x1) = true, (ref02_Species_r26 s q11 x3), (ref02_Species_r27 s q11), (ref02_Species_r28 s), VR (Ren.emb [(10, 11, 0)]) (.bool (x3)) (.bool (x3)), (x3) = true, (ref02_Species_r29 s), (ref02_in s.Top 1 40000) = true, (ref02_Species_r30 s), (ref02_in s.Stout 1 3000) = true, (ref02_Species_r31 s), (ref02_in s.Shade 0 99) = true, (ref02_Species_r32 s), (ref02_in s.Reach 0 40000) = true, (decide (((s.Ladder.length : Nat) : Int) > 20)) = false, (ref02_Species_r36 s), (ref02_in ((s.Sprouts.length : Nat) : Int) 1 60) = false]) (by kernel_rfl) ⟨ref02_table_fc fu s.Rise 5000 q10 x1 h1, ref02_Species_p33 s q10, ⟨MemAt.same _ (encL_pf cInt_pf _), trivial⟩, selfB_self 9 _ rfl _, h2, ref02_table_fc fu s.Thick 300 q11 x3 h3, ref02_Species_p34 s q11, ⟨MemAt.same _ (encL_pf cInt_pf _), trivial⟩, selfB_self 9 _ rfl _, h4, ref02_in_fc s.Top 1 40000, h5, ref02_in_fc s.Stout 1 3000, h6, ref02_in_fc s.Shade 0 99, h7, ref02_in_fc s.Reach 0 40000, h8, h9, ref02_in_fc ((s.Sprouts.length : Nat) : Int) 1 60, h10, trivial⟩ (by kernel_rfl)
                · skip
                  have e : ref02_Species fu s = some false := by unfold ref02_Species; rw [h1, Option.bind_some, h2, cond_true, h3, Option.bind_some, h4, cond_true, h5, cond_true, h6, cond_true, h7, cond_true, h8, cond_false]; first | done | rfl
                  rw [e] at hh
                  have hr := Option.some.inj hh
                  rw [← hr]
                  exact FSat.done pfT (fuel := 14) (hs := (hR 4 ((ref02_Species_i21 s q10 x1) :: (hR 4 ((ref02_Species_i22 s q11 x3) :: (hR 5 ((hB (hC (.bool (ref02_in s.Top 1 40000))) true) :: (hR 5 ((hB (hC (.bool (ref02_in s.Stout 1 3000))) true) :: (hR 5 ((hB (hC (.bool (ref02_in s.Shade 0 99))) true) :: (hR 5 ((hB (hC (.bool (ref02_in s.Reach 0 40000))) false) :: (hR 7 [])))))))))))))) (ss := []) (R := [(ref02_Species_r23 s q10 x1), (ref02_Species_r24 s q10), (ref02_Species_r25 s), VR (Ren.emb [(10, 10, 0)]) (.bool (x1)) (.bool (x1)), (x1) = true, (ref02_Species_r26 s q11 x3), (ref02_Species_r27 s q11), (ref02_Species_r28 s), VR (Ren.emb [(10, 11, 0)]) (.bool (x3)) (.bool (x3)), (x3) = true, (ref02_Species_r29 s), (ref02_in s.Top 1 40000) = true, (ref02_Species_r30 s), (ref02_in s.Stout 1 3000) = true, (ref02_Species_r31 s), (ref02_in s.Shade 0 99) = true, (ref02_Species_r32 s), (ref02_in s.Reach 0 40000) = false]) (by kernel_rfl) ⟨ref02_table_fc fu s.Rise 5000 q10 x1 h1, ref02_Species_p33 s q10, ⟨MemAt.same _ (encL_pf cInt_pf _), trivial⟩, selfB_self 9 _ rfl _, h2, ref02_table_fc fu s.Thick 300 q11 x3 h3, ref02_Species_p34 s q11, ⟨MemAt.same _ (encL_pf cInt_pf _), trivial⟩, selfB_self 9 _ rfl _, h4, ref02_in_fc s.Top 1 40000, h5, ref02_in_fc s.Stout 1 3000, h6, ref02_in_fc s.Shade 0 99, h7, ref02_in_fc s.Reach 0 40000, h8, trivial⟩ (by kernel_rfl)
              · skip
                have e : ref02_Species fu s = some false := by unfold ref02_Species; rw [h1, Option.bind_some, h2, cond_true, h3, Option.bind_some, h4, cond_true, h5, cond_true, h6, cond_true, h7, cond_false]; first | done | rfl
                rw [e] at hh
                have hr := Option.some.inj hh
                rw [← hr]
                exact FSat.done pfT (fuel := 14) (hs := (hR 4 ((ref02_Species_i21 s q10 x1) :: (hR 4 ((ref02_Species_i22 s q11 x3) :: (hR 5 ((hB (hC (.bool (ref02_in s.Top 1 40000))) true) :: (hR 5 ((hB (hC (.bool (ref02_in s.Stout 1 3000))) true) :: (hR 5 ((hB (hC (.bool (ref02_in s.Shade 0 99))) false) :: (hR 9 [])))))))))))) (ss := []) (R := [(ref02_Species_r23 s q10 x1), (ref02_Species_r24 s q10), (ref02_Species_r25 s), VR (Ren.emb [(10, 10, 0)]) (.bool (x1)) (.bool (x1)), (x1) = true, (ref02_Species_r26 s q11 x3), (ref02_Species_r27 s q11), (ref02_Species_r28 s), VR (Ren.emb [(10, 11, 0)]) (.bool (x3)) (.bool (x3)), (x3) = true, (ref02_Species_r29 s), (ref02_in s.Top 1 40000) = true, (ref02_Species_r30 s), (ref02_in s.Stout 1 3000) = true, (ref02_Species_r31 s), (ref02_in s.Shade 0 99) = false]) (by kernel_rfl) ⟨ref02_table_fc fu s.Rise 5000 q10 x1 h1, ref02_Species_p33 s q10, ⟨MemAt.same _ (encL_pf cInt_pf _), trivial⟩, selfB_self 9 _ rfl _, h2, ref02_table_fc fu s.Thick 300 q11 x3 h3, ref02_Species_p34 s q11, ⟨MemAt.same _ (encL_pf cInt_pf _), trivial⟩, selfB_self 9 _ rfl _, h4, ref02_in_fc s.Top 1 40000, h5, ref02_in_fc s.Stout 1 3000, h6, ref02_in_fc s.Shade 0 99, h7, trivial⟩ (by kernel_rfl)
            · skip
              have e : ref02_Species fu s = some false := by unfold ref02_Species; rw [h1, Option.bind_some, h2, cond_true, h3, Option.bind_some, h4, cond_true, h5, cond_true, h6, cond_false]; first | done | rfl
              rw [e] at hh
              have hr := Option.some.inj hh
              rw [← hr]
              exact FSat.done pfT (fuel := 14) (hs := (hR 4 ((ref02_Species_i21 s q10 x1) :: (hR 4 ((ref02_Species_i22 s q11 x3) :: (hR 5 ((hB (hC (.bool (ref02_in s.Top 1 40000))) true) :: (hR 5 ((hB (hC (.bool (ref02_in s.Stout 1 3000))) false) :: (hR 11 [])))))))))) (ss := []) (R := [(ref02_Species_r23 s q10 x1), (ref02_Species_r24 s q10), (ref02_Species_r25 s), VR (Ren.emb [(10, 10, 0)]) (.bool (x1)) (.bool (x1)), (x1) = true, (ref02_Species_r26 s q11 x3), (ref02_Species_r27 s q11), (ref02_Species_r28 s), VR (Ren.emb [(10, 11, 0)]) (.bool (x3)) (.bool (x3)), (x3) = true, (ref02_Species_r29 s), (ref02_in s.Top 1 40000) = true, (ref02_Species_r30 s), (ref02_in s.Stout 1 3000) = false]) (by kernel_rfl) ⟨ref02_table_fc fu s.Rise 5000 q10 x1 h1, ref02_Species_p33 s q10, ⟨MemAt.same _ (encL_pf cInt_pf _), trivial⟩, selfB_self 9 _ rfl _, h2, ref02_table_fc fu s.Thick 300 q11 x3 h3, ref02_Species_p34 s q11, ⟨MemAt.same _ (encL_pf cInt_pf _), trivial⟩, selfB_self 9 _ rfl _, h4, ref02_in_fc s.Top 1 40000, h5, ref02_in_fc s.Stout 1 3000, h6, trivial⟩ (by kernel_rfl)
          · skip
            have e : ref02_Species fu s = some false := by unfold ref02_Species; rw [h1, Option.bind_some, h2, cond_true, h3, Option.bind_some, h4, cond_true, h5, cond_false]; first | done | rfl
            rw [e] at hh
            have hr := Option.some.inj hh
            rw [← hr]
            exact FSat.done pfT (fuel := 14) (hs := (hR 4 ((ref02_Species_i21 s q10 x1) :: (hR 4 ((ref02_Species_i22 s q11 x3) :: (hR 5 ((hB (hC (.bool (ref02_in s.Top 1 40000))) false) :: (hR 13 [])))))))) (ss := []) (R := [(ref02_Species_r23 s q10 x1), (ref02_Species_r24 s q10), (ref02_Species_r25 s), VR (Ren.emb [(10, 10, 0)]) (.bool (x1)) (.bool (x1)), (x1) = true, (ref02_Species_r26 s q11 x3), (ref02_Species_r27 s q11), (ref02_Species_r28 s), VR (Ren.emb [(10, 11, 0)]) (.bool (x3)) (.bool (x3)), (x3) = true, (ref02_Species_r29 s), (ref02_in s.Top 1 40000) = false]) (by kernel_rfl) ⟨ref02_table_fc fu s.Rise 5000 q10 x1 h1, ref02_Species_p33 s q10, ⟨MemAt.same _ (encL_pf cInt_pf _), trivial⟩, selfB_self 9 _ rfl _, h2, ref02_table_fc fu s.Thick 300 q11 x3 h3, ref02_Species_p34 s q11, ⟨MemAt.same _ (encL_pf cInt_pf _), trivial⟩, selfB_self 9 _ rfl _, h4, ref02_in_fc s.Top 1 40000, h5, trivial⟩ (by kernel_rfl)
        · skip
          have e : ref02_Species fu s = some false := by unfold ref02_Species; rw [h1, Option.bind_some, h2, cond_true, h3, Option.bind_some, h4, cond_false]; first | done | rfl
          rw [e] at hh
          have hr := Option.some.inj hh
          rw [← hr]
          exact FSat.done pfT (fuel := 14) (hs := (hR 4 ((ref02_Species_i21 s q10 x1) :: (hR 4 ((ref02_Species_i38 s q11 x3) :: (hR 15 [])))))) (ss := []) (R := [(ref02_Species_r23 s q10 x1), (ref02_Species_r24 s q10), (ref02_Species_r25 s), VR (Ren.emb [(10, 10, 0)]) (.bool (x1)) (.bool (x1)), (x1) = true, (ref02_Species_r26 s q11 x3), (ref02_Species_r27 s q11), (ref02_Species_r28 s), VR (Ren.emb [(10, 11, 0)]) (.bool (x3)) (.bool (x3)), (x3) = false]) (by kernel_rfl) ⟨ref02_table_fc fu s.Rise 5000 q10 x1 h1, ref02_Species_p33 s q10, ⟨MemAt.same _ (encL_pf cInt_pf _), trivial⟩, selfB_self 9 _ rfl _, h2, ref02_table_fc fu s.Thick 300 q11 x3 h3, ref02_Species_p34 s q11, ⟨MemAt.same _ (encL_pf cInt_pf _), trivial⟩, selfB_self 9 _ rfl _, h4, trivial⟩ (by kernel_rfl)
    · skip
      have e : ref02_Species fu s = some false := by unfold ref02_Species; rw [h1, Option.bind_some, h2, cond_false]; first | done | rfl
      rw [e] at hh
      have hr := Option.some.inj hh
      rw [← hr]
      exact FSat.done pfT (fuel := 14) (hs := (hR 4 ((ref02_Species_i39 s q10 x1) :: (hR 16 [])))) (ss := []) (R := [(ref02_Species_r23 s q10 x1), (ref02_Species_r24 s q10), (ref02_Species_r25 s), VR (Ren.emb [(10, 10, 0)]) (.bool (x1)) (.bool (x1)), (x1) = false]) (by kernel_rfl) ⟨ref02_table_fc fu s.Rise 5000 q10 x1 h1, ref02_Species_p33 s q10, ⟨MemAt.same _ (encL_pf cInt_pf _), trivial⟩, selfB_self 9 _ rfl _, h2, trivial⟩ (by kernel_rfl)

/- greenhew/greenhewref02.Stand -/
abbrev ref02_Stand_r0 (x_0 : XStand) : Prop := FC P GG 63 (A_ref02_in x_0.Age 0 100000) [] (.bool (ref02_in x_0.Age 0 100000))
abbrev ref02_Stand_r1 (x_0 : XStand) : Prop := FC P GG 63 (A_ref02_in x_0.Shoots 0 300) [] (.bool (ref02_in x_0.Shoots 0 300))
abbrev ref02_Stand_r2 (x_0 : XStand) : Prop := FC P GG 63 (A_ref02_in x_0.Height 0 40000) [] (.bool (ref02_in x_0.Height 0 40000))
abbrev ref02_Stand_r3 (x_0 : XStand) : Prop := FC P GG 63 (A_ref02_in x_0.Girth 0 3000) [] (.bool (ref02_in x_0.Girth 0 3000))
abbrev A_ref02_Stand (x_0 : XStand) : List Value := [.agg #[I (x_0.Age), I (x_0.Shoots), I (x_0.Height), I (x_0.Girth)]]
noncomputable def ref02_Stand (x_0 : XStand) : Bool :=
  bif ref02_in x_0.Age 0 100000 then (bif ref02_in x_0.Shoots 0 300 then (bif ref02_in x_0.Height 0 40000 then ref02_in x_0.Girth 0 3000
      else false)
    else false)
  else false
theorem ref02_Stand_fc (x_0 : XStand) : FC P GG 23 [.agg #[I (x_0.Age), I (x_0.Shoots), I (x_0.Height), I (x_0.Girth)]] [] (.bool (ref02_Stand x_0)) := by
  refine FC.of_fsat 21 100 Tryd.func23 (by kernel_rfl) (by kernel_rfl) (by kernel_rfl) trivial ?_
  rcases Bool.eq_false_or_eq_true (ref02_in x_0.Age 0 100000) with h1 | h1
  · skip
    rcases Bool.eq_false_or_eq_true (ref02_in x_0.Shoots 0 300) with h2 | h2
    · skip
      rcases Bool.eq_false_or_eq_true (ref02_in x_0.Height 0 40000) with h3 | h3
      · skip
        have e : ref02_Stand x_0 = ref02_in x_0.Girth 0 3000 := by unfold ref02_Stand; rw [h1, cond_true, h2, cond_true, h3, cond_true]; first | done | rfl
        rw [e]
        exact FSat.done pfT (fuel := 10) (hs := (hR 4 ((hB (hC (.bool (ref02_in x_0.Age 0 100000))) true) :: hE :: hE :: hE :: (hB (hC (.bool (ref02_in x_0.Shoots 0 300))) true) :: (hR 4 ((hB (hC (.bool (ref02_in x_0.Height 0 40000))) true) :: (hR 4 [(hC (.bool (ref02_in x_0.Girth 0 3000))), hE, hE])))))) (ss := []) (R := [(ref02_Stand_r0 x_0), (ref02_in x_0.Age 0 100000) = true, (ref02_Stand_r1 x_0), (ref02_in x_0.Shoots 0 300) = true, (ref02_Stand_r2 x_0), (ref02_in x_0.Height 0 40000) = true, (ref02_Stand_r3 x_0)]) (by kernel_rfl) ⟨ref02_in_fc x_0.Age 0 100000, h1, ref02_in_fc x_0.Shoots 0 300, h2, ref02_in_fc x_0.Height 0 40000, h3, ref02_in_fc x_0.Girth 0 3000, trivial⟩ (by kernel_rfl)
      · skip
        have e : ref02_Stand x_0 = false := by unfold ref02_Stand; rw [h1, cond_true, h2, cond_true, h3, cond_false]; first | done | rfl
        rw [e]
        exact FSat.done pfT (fuel := 10) (hs := (hR 4 ((hB (hC (.bool (ref02_in x_0.Age 0 100000))) true) :: hE :: hE :: hE :: (hB (hC (.bool (ref02_in x_0.Shoots 0 300))) true) :: (hR 4 ((hB (hC (.bool (ref02_in x_0.Height 0 40000))) false) :: (hR 4 [])))))) (ss := []) (R := [(ref02_Stand_r0 x_0), (ref02_in x_0.Age 0 100000) = true, (ref02_Stand_r1 x_0), (ref02_in x_0.Shoots 0 300) = true, (ref02_Stand_r2 x_0), (ref02_in x_0.Height 0 40000) = false]) (by kernel_rfl) ⟨ref02_in_fc x_0.Age 0 100000, h1, ref02_in_fc x_0.Shoots 0 300, h2, ref02_in_fc x_0.Height 0 40000, h3, trivial⟩ (by kernel_rfl)
    · skip
      have e : ref02_Stand x_0 = false := by unfold ref02_Stand; rw [h1, cond_true, h2, cond_false]; first | done | rfl
      rw [e]
      exact FSat.done pfT (fuel := 10) (hs := (hR 4 ((hB (hC (.bool (ref02_in x_0.Age 0 100000))) true) :: hE :: hE :: hE :: (hB (hC (.bool (ref02_in x_0.Shoots 0 300))) false) :: (hR 6 [])))) (ss := []) (R := [(ref02_Stand_r0 x_0), (ref02_in x_0.Age 0 100000) = true, (ref02_Stand_r1 x_0), (ref02_in x_0.Shoots 0 300) = false]) (by kernel_rfl) ⟨ref02_in_fc x_0.Age 0 100000, h1, ref02_in_fc x_0.Shoots 0 300, h2, trivial⟩ (by kernel_rfl)
  · skip
    have e : ref02_Stand x_0 = false := by unfold ref02_Stand; rw [h1, cond_false]; first | done | rfl
    rw [e]
    exact FSat.done pfT (fuel := 10) (hs := (hR 4 ((hB (hC (.bool (ref02_in x_0.Age 0 100000))) false) :: (hR 7 [])))) (ss := []) (R := [(ref02_Stand_r0 x_0), (ref02_in x_0.Age 0 100000) = false]) (by kernel_rfl) ⟨ref02_in_fc x_0.Age 0 100000, h1, trivial⟩ (by kernel_rfl)

/- greenhew/greenhewref02.Box -/
abbrev ref02_Box_r0 (b : XBox) : Prop := FC P GG 23 (A_ref02_Stand b.Low) [] (.bool (ref02_Stand b.Low))
abbrev ref02_Box_r1 (b : XBox) : Prop := FC P GG 23 (A_ref02_Stand b.High) [] (.bool (ref02_Stand b.High))
abbrev A_ref02_Box (b : XBox) : List Value := [.agg #[I (b.Low.Age), I (b.Low.Shoots), I (b.Low.Height), I (b.Low.Girth), I (b.High.Age), I (b.High.Shoots), I (b.High.Height), I (b.High.Girth)]]
noncomputable def ref02_Box (b : XBox) : Bool :=
  bif ref02_Stand b.Low then (bif ref02_Stand b.High then (bif b.Low.Age == b.High.Age then (bif decide (b.Low.Shoots ≤ b.High.Shoots) then (bif decide (b.Low.Height ≤ b.High.Height) then decide (b.Low.Girth ≤ b.High.Girth)
          else false)
        else false)
      else false)
    else false)
  else false
theorem ref02_Box_fc (b : XBox) : FC P GG 28 [.agg #[I (b.Low.Age), I (b.Low.Shoots), I (b.Low.Height), I (b.Low.Girth), I (b.High.Age), I (b.High.Shoots), I (b.High.Height), I (b.High.Girth)]] [] (.bool (ref02_Box b)) := by
  refine FC.of_fsat 47 100 Tryd.func28 (by kernel_rfl) (by kernel_rfl) (by kernel_rfl) trivial ?_
  rcases Bool.eq_false_or_eq_true (ref02_Stand b.Low) with h1 | h1
  · skip
    rcases Bool.eq_false_or_eq_true (ref02_Stand b.High) with h2 | h2
    · skip
      rcases Bool.eq_false_or_eq_true (b.Low.Age == b.High.Age) with h3 | h3
      · skip
        rcases Bool.eq_false_or_eq_true (decide (b.Low.Shoots ≤ b.High.Shoots)) with h4 | h4
        · skip
          rcases Bool.eq_false_or_eq_true (decide (b.Low.Height ≤ b.High.Height)) with h5 | h5
          · skip
            have e : ref02_Box b = decide (b.Low.Girth ≤ b.High.Girth) := by unfold ref02_Box; rw [h1, cond_true, h2, cond_true, h3, cond_true, h4, cond_true, h5, cond_true]; first | done | rfl
            rw [e]
            exact FSat.done pfT (fuel := 10) (hs := (hR 4 ((hB (hC (.bool (ref02_Stand b.Low))) true) :: hE :: hE :: hE :: (hB (hC (.bool (ref02_Stand b.High))) true) :: (hR 8 (hT :: (hR 8 (hT :: (hR 8 (hT :: (hR 11 [])))))))))) (ss := []) (R := [(ref02_Box_r0 b), (ref02_Stand b.Low) = true, (ref02_Box_r1 b), (ref02_Stand b.High) = true, (b.Low.Age == b.High.Age) = true, (decide (b.Low.Shoots ≤ b.High.Shoots)) = true, (decide (b.Low.Height ≤ b.High.Height)) = true]) (by kernel_rfl) ⟨ref02_Stand_fc b.Low, h1, ref02_Stand_fc b.High, h2, h3, h4, h5, trivial⟩ (by kernel_rfl)
          · skip
            have e : ref02_Box b = false := by unfold ref02_Box; rw [h1, cond_true, h2, cond_true, h3, cond_true, h4, cond_true, h5, cond_false]; first | done | rfl
            rw [e]
            exact FSat.done pfT (fuel := 10) (hs := (hR 4 ((hB (hC (.bool (ref02_Stand b.Low))) true) :: hE :: hE :: hE :: (hB (hC (.bool (ref02_Stand b.High))) true) :: (hR 8 (hT :: (hR 8 (hT :: (hR 8 (hF :: (hR 4 [])))))))))) (ss := []) (R := [(ref02_Box_r0 b), (ref02_Stand b.Low) = true, (ref02_Box_r1 b), (ref02_Stand b.High) = true, (b.Low.Age == b.High.Age) = true, (decide (b.Low.Shoots ≤ b.High.Shoots)) = true, (decide (b.Low.Height ≤ b.High.Height)) = false]) (by kernel_rfl) ⟨ref02_Stand_fc b.Low, h1, ref02_Stand_fc b.High, h2, h3, h4, h5, trivial⟩ (by kernel_rfl)
        · skip
          have e : ref02_Box b = false := by unfold ref02_Box; rw [h1, cond_true, h2, cond_true, h3, cond_true, h4, cond_false]; first | done | rfl
          rw [e]
          exact FSat.done pfT (fuel := 10) (hs := (hR 4 ((hB (hC (.bool (ref02_Stand b.Low))) true) :: hE :: hE :: hE :: (hB (hC (.bool (ref02_Stand b.High))) true) :: (hR 8 (hT :: (hR 8 (hF :: (hR 6 [])))))))) (ss := []) (R := [(ref02_Box_r0 b), (ref02_Stand b.Low) = true, (ref02_Box_r1 b), (ref02_Stand b.High) = true, (b.Low.Age == b.High.Age) = true, (decide (b.Low.Shoots ≤ b.High.Shoots)) = false]) (by kernel_rfl) ⟨ref02_Stand_fc b.Low, h1, ref02_Stand_fc b.High, h2, h3, h4, trivial⟩ (by kernel_rfl)
      · skip
        have e : ref02_Box b = false := by unfold ref02_Box; rw [h1, cond_true, h2, cond_true, h3, cond_false]; first | done | rfl
        rw [e]
        exact FSat.done pfT (fuel := 10) (hs := (hR 4 ((hB (hC (.bool (ref02_Stand b.Low))) true) :: hE :: hE :: hE :: (hB (hC (.bool (ref02_Stand b.High))) true) :: (hR 8 (hF :: (hR 8 [])))))) (ss := []) (R := [(ref02_Box_r0 b), (ref02_Stand b.Low) = true, (ref02_Box_r1 b), (ref02_Stand b.High) = true, (b.Low.Age == b.High.Age) = false]) (by kernel_rfl) ⟨ref02_Stand_fc b.Low, h1, ref02_Stand_fc b.High, h2, h3, trivial⟩ (by kernel_rfl)
    · skip
      have e : ref02_Box b = false := by unfold ref02_Box; rw [h1, cond_true, h2, cond_false]; first | done | rfl
      rw [e]
      exact FSat.done pfT (fuel := 10) (hs := (hR 4 ((hB (hC (.bool (ref02_Stand b.Low))) true) :: hE :: hE :: hE :: (hB (hC (.bool (ref02_Stand b.High))) false) :: (hR 10 [])))) (ss := []) (R := [(ref02_Box_r0 b), (ref02_Stand b.Low) = true, (ref02_Box_r1 b), (ref02_Stand b.High) = false]) (by kernel_rfl) ⟨ref02_Stand_fc b.Low, h1, ref02_Stand_fc b.High, h2, trivial⟩ (by kernel_rfl)
  · skip
    have e : ref02_Box b = false := by unfold ref02_Box; rw [h1, cond_false]; first | done | rfl
    rw [e]
    exact FSat.done pfT (fuel := 10) (hs := (hR 4 ((hB (hC (.bool (ref02_Stand b.Low))) false) :: (hR 11 [])))) (ss := []) (R := [(ref02_Box_r0 b), (ref02_Stand b.Low) = false]) (by kernel_rfl) ⟨ref02_Stand_fc b.Low, h1, trivial⟩ (by kernel_rfl)

/- greenhew/greenhewref02.Season -/
abbrev ref02_Season_r0 (q : XSeason) : Prop := FC P GG 64 (A_ref02_Span q.Light 100) [] (.bool (ref02_Span q.Light 100))
abbrev ref02_Season_r1 (q : XSeason) : Prop := FC P GG 64 (A_ref02_Span q.Browse 100) [] (.bool (ref02_Span q.Browse 100))
abbrev ref02_Season_r2 (q : XSeason) : Prop := FC P GG 64 (A_ref02_Span q.Mild 200) [] (.bool (ref02_Span q.Mild 200))
abbrev A_ref02_Season (q : XSeason) : List Value := [.agg #[I (q.Light.Low), I (q.Light.High), I (q.Browse.Low), I (q.Browse.High), I (q.Mild.Low), I (q.Mild.High), .bool (q.Cut)]]
noncomputable def ref02_Season (q : XSeason) : Bool :=
  bif ref02_Span q.Light 100 then (bif ref02_Span q.Browse 100 then ref02_Span q.Mild 200
    else false)
  else false
theorem ref02_Season_fc (q : XSeason) : FC P GG 32 [.agg #[I (q.Light.Low), I (q.Light.High), I (q.Browse.Low), I (q.Browse.High), I (q.Mild.Low), I (q.Mild.High), .bool (q.Cut)]] [] (.bool (ref02_Season q)) := by
  refine FC.of_fsat 16 100 Tryd.func32 (by kernel_rfl) (by kernel_rfl) (by kernel_rfl) trivial ?_
  rcases Bool.eq_false_or_eq_true (ref02_Span q.Light 100) with h1 | h1
  · skip
    rcases Bool.eq_false_or_eq_true (ref02_Span q.Browse 100) with h2 | h2
    · skip
      have e : ref02_Season q = ref02_Span q.Mild 200 := by unfold ref02_Season; rw [h1, cond_true, h2, cond_true]; first | done | rfl
      rw [e]
      exact FSat.done pfT (fuel := 10) (hs := (hR 4 ((hB (hC (.bool (ref02_Span q.Light 100))) true) :: hE :: hE :: hE :: (hB (hC (.bool (ref02_Span q.Browse 100))) true) :: (hR 4 [(hC (.bool (ref02_Span q.Mild 200))), hE, hE])))) (ss := []) (R := [(ref02_Season_r0 q), (ref02_Span q.Light 100) = true, (ref02_Season_r1 q), (ref02_Span q.Browse 100) = true, (ref02_Season_r2 q)]) (by kernel_rfl) ⟨ref02_Span_fc q.Light 100, h1, ref02_Span_fc q.Browse 100, h2, ref02_Span_fc q.Mild 200, trivial⟩ (by kernel_rfl)
    · skip
      have e : ref02_Season q = false := by unfold ref02_Season; rw [h1, cond_true, h2, cond_false]; first | done | rfl
      rw [e]
      exact FSat.done pfT (fuel := 10) (hs := (hR 4 ((hB (hC (.bool (ref02_Span q.Light 100))) true) :: hE :: hE :: hE :: (hB (hC (.bool (ref02_Span q.Browse 100))) false) :: (hR 4 [])))) (ss := []) (R := [(ref02_Season_r0 q), (ref02_Span q.Light 100) = true, (ref02_Season_r1 q), (ref02_Span q.Browse 100) = false]) (by kernel_rfl) ⟨ref02_Span_fc q.Light 100, h1, ref02_Span_fc q.Browse 100, h2, trivial⟩ (by kernel_rfl)
  · skip
    have e : ref02_Season q = false := by unfold ref02_Season; rw [h1, cond_false]; first | done | rfl
    rw [e]
    exact FSat.done pfT (fuel := 10) (hs := (hR 4 ((hB (hC (.bool (ref02_Span q.Light 100))) false) :: (hR 5 [])))) (ss := []) (R := [(ref02_Season_r0 q), (ref02_Span q.Light 100) = false]) (by kernel_rfl) ⟨ref02_Span_fc q.Light 100, h1, trivial⟩ (by kernel_rfl)

/- greenhew/greenhewref02.Get -/
abbrev A_ref02_Get (b : XBox) (k : Int) : List Value := [.agg #[I (b.Low.Age), I (b.Low.Shoots), I (b.Low.Height), I (b.Low.Girth), I (b.High.Age), I (b.High.Shoots), I (b.High.Height), I (b.High.Girth)], I (k)]
noncomputable def ref02_Get (b : XBox) (k : Int) : XSpan :=
  bif k == 1 then (⟨b.Low.Shoots, b.High.Shoots⟩ : XSpan)
  else (bif k == 2 then (⟨b.Low.Height, b.High.Height⟩ : XSpan)
    else (⟨b.Low.Girth, b.High.Girth⟩ : XSpan))
theorem ref02_Get_fc (b : XBox) (k : Int) : FC P GG 75 [.agg #[I (b.Low.Age), I (b.Low.Shoots), I (b.Low.Height), I (b.Low.Girth), I (b.High.Age), I (b.High.Shoots), I (b.High.Height), I (b.High.Girth)], I (k)] [] (.agg #[I ((ref02_Get b k).Low), I ((ref02_Get b k).High)]) := by
  refine FC.of_fsat 31 100 Tryd.func75 (by kernel_rfl) (by kernel_rfl) (by kernel_rfl) trivial ?_
  rcases Bool.eq_false_or_eq_true (k == 1) with h1 | h1
  · skip
    have e : ref02_Get b k = (⟨b.Low.Shoots, b.High.Shoots⟩ : XSpan) := by unfold ref02_Get; rw [h1, cond_true]; first | done | rfl
    rw [e]
    exact FSat.done pfT (fuel := 17) (hs := (hE :: hE :: hE :: hT :: (hR 9 []))) (ss := []) (R := [(k == 1) = true]) (by kernel_rfl) ⟨h1, trivial⟩ (by kernel_rfl)
  · skip
    rcases Bool.eq_false_or_eq_true (k == 2) with h2 | h2
    · skip
      have e : ref02_Get b k = (⟨b.Low.Height, b.High.Height⟩ : XSpan) := by unfold ref02_Get; rw [h1, cond_false, h2, cond_true]; first | done | rfl
      rw [e]
      exact FSat.done pfT (fuel := 20) (hs := (hE :: hE :: hE :: hF :: hE :: hT :: (hR 9 []))) (ss := []) (R := [(k == 1) = false, (k == 2) = true]) (by kernel_rfl) ⟨h1, h2, trivial⟩ (by kernel_rfl)
    · skip
      have e : ref02_Get b k = (⟨b.Low.Girth, b.High.Girth⟩ : XSpan) := by unfold ref02_Get; rw [h1, cond_false, h2, cond_false]; first | done | rfl
      rw [e]
      exact FSat.done pfT (fuel := 22) (hs := (hE :: hE :: hE :: hF :: hE :: hF :: (hR 9 []))) (ss := []) (R := [(k == 1) = false, (k == 2) = false]) (by kernel_rfl) ⟨h1, h2, trivial⟩ (by kernel_rfl)

/- greenhew/greenhewlaw02.between -/
abbrev A_law02_between (s : XSpan) (percent : Int) : List Value := [.agg #[I (s.Low), I (s.High)], I (percent)]
noncomputable def law02_between (s : XSpan) (percent : Int) : Int :=
  W (s.Low + (W ((W ((W (s.High - s.Low)) * percent)).tdiv 100)))
theorem law02_between_fc (s : XSpan) (percent : Int) : FC P GG 74 [.agg #[I (s.Low), I (s.High)], I (percent)] [] (I (law02_between s percent)) := by
  refine FC.of_fsat 16 100 Tryd.func74 (by kernel_rfl) (by kernel_rfl) (by kernel_rfl) trivial ?_
  have e : law02_between s percent = W (s.Low + (W ((W ((W (s.High - s.Low)) * percent)).tdiv 100))) := by unfold law02_between; rfl
  rw [e]
  exact FSat.done pfT (fuel := 10) (hs := (hR 14 [])) (ss := []) (R := []) (by kernel_rfl) trivial (by kernel_rfl)

/- greenhew/greenhewlaw02.Stood -/
noncomputable abbrev law02_Stood_i0 (b : XBox) : Hint := (hC (.agg #[I ((ref02_Get b 1).Low), I ((ref02_Get b 1).High)]))
noncomputable abbrev law02_Stood_i1 (b : XBox) : Hint := (hC (.agg #[I ((ref02_Get b 2).Low), I ((ref02_Get b 2).High)]))
noncomputable abbrev law02_Stood_i2 (b : XBox) : Hint := (hC (.agg #[I ((ref02_Get b 3).Low), I ((ref02_Get b 3).High)]))
abbrev law02_Stood_r3 (b : XBox) : Prop := FC P GG 75 (A_ref02_Get b 1) [] (.agg #[I ((ref02_Get b 1).Low), I ((ref02_Get b 1).High)])
abbrev law02_Stood_r4 (b : XBox) (t_1 : XTrue) : Prop := FC P GG 74 (A_law02_between (ref02_Get b 1) t_1.Light) [] (I (law02_between (ref02_Get b 1) t_1.Light))
abbrev law02_Stood_r5 (b : XBox) : Prop := FC P GG 75 (A_ref02_Get b 2) [] (.agg #[I ((ref02_Get b 2).Low), I ((ref02_Get b 2).High)])
abbrev law02_Stood_r6 (b : XBox) (t_1 : XTrue) : Prop := FC P GG 74 (A_law02_between (ref02_Get b 2) t_1.Browse) [] (I (law02_between (ref02_Get b 2) t_1.Browse))
abbrev law02_Stood_r7 (b : XBox) : Prop := FC P GG 75 (A_ref02_Get b 3) [] (.agg #[I ((ref02_Get b 3).Low), I ((ref02_Get b 3).High)])
abbrev law02_Stood_r8 (b : XBox) (t_1 : XTrue) : Prop := FC P GG 74 (A_law02_between (ref02_Get b 3) t_1.Mild) [] (I (law02_between (ref02_Get b 3) t_1.Mild))
abbrev A_law02_Stood (b : XBox) (t_1 : XTrue) : List Value := [.agg #[I (b.Low.Age), I (b.Low.Shoots), I (b.Low.Height), I (b.Low.Girth), I (b.High.Age), I (b.High.Shoots), I (b.High.Height), I (b.High.Girth)], .agg #[I (t_1.Light), I (t_1.Browse), I (t_1.Mild), I (t_1.Sprouts)]]
noncomputable def law02_Stood (b : XBox) (t_1 : XTrue) : XStand :=
  (⟨b.Low.Age, law02_between (ref02_Get b 1) t_1.Light, law02_between (ref02_Get b 2) t_1.Browse, law02_between (ref02_Get b 3) t_1.Mild⟩ : XStand)
theorem law02_Stood_fc (b : XBox) (t_1 : XTrue) : FC P GG 38 [.agg #[I (b.Low.Age), I (b.Low.Shoots), I (b.Low.Height), I (b.Low.Girth), I (b.High.Age), I (b.High.Shoots), I (b.High.Height), I (b.High.Girth)], .agg #[I (t_1.Light), I (t_1.Browse), I (t_1.Mild), I (t_1.Sprouts)]] [] (.agg #[I ((law02_Stood b t_1).Age), I ((law02_Stood b t_1).Shoots), I ((law02_Stood b t_1).Height), I ((law02_Stood b t_1).Girth)]) := by
  refine FC.of_fsat 24 100 Tryd.func38 (by kernel_rfl) (by kernel_rfl) (by kernel_rfl) trivial ?_
  have e : law02_Stood b t_1 = (⟨b.Low.Age, law02_between (ref02_Get b 1) t_1.Light, law02_between (ref02_Get b 2) t_1.Browse, law02_between (ref02_Get b 3) t_1.Mild⟩ : XStand) := by unfold law02_Stood; rfl
  rw [e]
  exact FSat.done pfT (fuel := 10) (hs := (hR 7 [(law02_Stood_i0 b), hE, hE, (hC (I (law02_between (ref02_Get b 1) t_1.Light))), hE, (law02_Stood_i1 b), hE, hE, (hC (I (law02_between (ref02_Get b 2) t_1.Browse))), hE, (law02_Stood_i2 b), hE, hE, (hC (I (law02_between (ref02_Get b 3) t_1.Mild))), hE, hE])) (ss := []) (R := [(law02_Stood_r3 b), (law02_Stood_r4 b t_1), (law02_Stood_r5 b), (law02_Stood_r6 b t_1), (law02_Stood_r7 b), (law02_Stood_r8 b t_1)]) (by kernel_rfl) ⟨ref02_Get_fc b 1, law02_between_fc (ref02_Get b 1) t_1.Light, ref02_Get_fc b 2, law02_between_fc (ref02_Get b 2) t_1.Browse, ref02_Get_fc b 3, law02_between_fc (ref02_Get b 3) t_1.Mild, trivial⟩ (by kernel_rfl)

structure XWeather where
  Light : Int
  Browse : Int
  Mild : Int

def zXWeather : XWeather := ⟨0, 0, 0⟩

/- greenhew/greenhewlaw02.weather -/
abbrev law02_weather_r0 (q : XSeason) (t_1 : XTrue) : Prop := FC P GG 74 (A_law02_between q.Light t_1.Light) [] (I (law02_between q.Light t_1.Light))
abbrev law02_weather_r1 (q : XSeason) (t_1 : XTrue) : Prop := FC P GG 74 (A_law02_between q.Browse t_1.Browse) [] (I (law02_between q.Browse t_1.Browse))
abbrev law02_weather_r2 (q : XSeason) (t_1 : XTrue) : Prop := FC P GG 74 (A_law02_between q.Mild t_1.Mild) [] (I (law02_between q.Mild t_1.Mild))
abbrev A_law02_weather (q : XSeason) (t_1 : XTrue) : List Value := [.agg #[I (q.Light.Low), I (q.Light.High), I (q.Browse.Low), I (q.Browse.High), I (q.Mild.Low), I (q.Mild.High), .bool (q.Cut)], .agg #[I (t_1.Light), I (t_1.Browse), I (t_1.Mild), I (t_1.Sprouts)]]
noncomputable def law02_weather (q : XSeason) (t_1 : XTrue) : XWeather :=
  (⟨law02_between q.Light t_1.Light, law02_between q.Browse t_1.Browse, law02_between q.Mild t_1.Mild⟩ : XWeather)
theorem law02_weather_fc (q : XSeason) (t_1 : XTrue) : FC P GG 76 [.agg #[I (q.Light.Low), I (q.Light.High), I (q.Browse.Low), I (q.Browse.High), I (q.Mild.Low), I (q.Mild.High), .bool (q.Cut)], .agg #[I (t_1.Light), I (t_1.Browse), I (t_1.Mild), I (t_1.Sprouts)]] [] (.agg #[I ((law02_weather q t_1).Light), I ((law02_weather q t_1).Browse), I ((law02_weather q t_1).Mild)]) := by
  refine FC.of_fsat 21 100 Tryd.func76 (by kernel_rfl) (by kernel_rfl) (by kernel_rfl) trivial ?_
  have e : law02_weather q t_1 = (⟨law02_between q.Light t_1.Light, law02_between q.Browse t_1.Browse, law02_between q.Mild t_1.Mild⟩ : XWeather) := by unfold law02_weather; rfl
  rw [e]
  exact FSat.done pfT (fuel := 10) (hs := (hR 7 ((hC (I (law02_between q.Light t_1.Light))) :: (hR 4 ((hC (I (law02_between q.Browse t_1.Browse))) :: (hR 4 [(hC (I (law02_between q.Mild t_1.Mild))), hE, hE])))))) (ss := []) (R := [(law02_weather_r0 q t_1), (law02_weather_r1 q t_1), (law02_weather_r2 q t_1)]) (by kernel_rfl) ⟨law02_between_fc q.Light t_1.Light, law02_between_fc q.Browse t_1.Browse, law02_between_fc q.Mild t_1.Mild, trivial⟩ (by kernel_rfl)

/- greenhew/growth.within -/
abbrev A_growth_within (n : Int) (least : Int) (most : Int) : List Value := [I (n), I (least), I (most)]
noncomputable def growth_within (n : Int) (least : Int) (most : Int) : Bool :=
  bif decide (n ≥ least) then decide (n ≤ most)
  else false
theorem growth_within_fc (n : Int) (least : Int) (most : Int) : FC P GG 94 [I (n), I (least), I (most)] [] (.bool (growth_within n least most)) := by
  refine FC.of_fsat 15 100 Tryd.func94 (by kernel_rfl) (by kernel_rfl) (by kernel_rfl) trivial ?_
  rcases Bool.eq_false_or_eq_true (decide (n ≥ least)) with h1 | h1
  · skip
    have e : growth_within n least most = decide (n ≤ most) := by unfold growth_within; rw [h1, cond_true]; first | done | rfl
    rw [e]
    exact FSat.done pfT (fuel := 10) (hs := (hE :: hE :: hE :: hT :: (hR 6 []))) (ss := []) (R := [(decide (n ≥ least)) = true]) (by kernel_rfl) ⟨h1, trivial⟩ (by kernel_rfl)
  · skip
    have e : growth_within n least most = false := by unfold growth_within; rw [h1, cond_false]; first | done | rfl
    rw [e]
    exact FSat.done pfT (fuel := 10) (hs := [hE, hE, hE, hF, hE, hE, hE]) (ss := []) (R := [(decide (n ≥ least)) = false]) (by kernel_rfl) ⟨h1, trivial⟩ (by kernel_rfl)

/- greenhew/growth.yearsAreDefined$1 -/
abbrev growth_yearsAreDefined_1_r0 (n : Int) (a1 : Int) : Prop := FC P GG 94 (A_growth_within n 0 a1) [] (.bool (growth_within n 0 a1))
abbrev A_growth_yearsAreDefined_1 (n : Int) : List Value := [I (n), .pointer (some ⟨10, 0, none⟩)]
abbrev K_growth_yearsAreDefined_1 (a1 : Int) : List (Nat × List Value) := [(10, [I (a1)])]
noncomputable def growth_yearsAreDefined_1 (n : Int) (a1 : Int) : Bool :=
  growth_within n 0 a1
theorem growth_yearsAreDefined_1_fc (n : Int) (a1 : Int) : FC P GG 118 [I (n), .pointer (some ⟨10, 0, none⟩)] [(10, [I (a1)])] (.bool (growth_yearsAreDefined_1 n a1)) := by
  refine FC.of_fsat 7 100 Tryd.func118 (by kernel_rfl) (by kernel_rfl) (by kernel_rfl) ⟨PinL.lit (by kernel_rfl), trivial⟩ ?_
  have e : growth_yearsAreDefined_1 n a1 = growth_within n 0 a1 := by unfold growth_yearsAreDefined_1; rfl
  rw [e]
  exact FSat.done pfT (fuel := 10) (hs := [hE, hE, hE, (hC (.bool (growth_within n 0 a1))), hE]) (ss := []) (R := [(growth_yearsAreDefined_1_r0 n a1)]) (by kernel_rfl) ⟨growth_within_fc n 0 a1, trivial⟩ (by kernel_rfl)

/- greenhew/growth.all[int] -/
noncomputable abbrev growth_all_i0 (l : List Int) (holds_0 : Int) (v9 : Int) : Hint := (hB (hM (.bool (growth_yearsAreDefined_1 (at_ 0 l v9) holds_0)) (.bool (growth_yearsAreDefined_1 (at_ 0 l v9) holds_0)) (A_growth_yearsAreDefined_1 (at_ 0 l v9)) (K_growth_yearsAreDefined_1 holds_0) [(10, 11, 0)]) true)
abbrev growth_all_r1 (l : List Int) (v9 : Int) : Prop := RowLd P 3 (encL cInt l) (0 + v9.toNat * 1) (I ((at_ 0 l v9)))
abbrev growth_all_r2 (l : List Int) (holds_0 : Int) (v9 : Int) : Prop := FC P GG 118 (A_growth_yearsAreDefined_1 (at_ 0 l v9)) (K_growth_yearsAreDefined_1 holds_0) (.bool (growth_yearsAreDefined_1 (at_ 0 l v9) holds_0))
abbrev growth_all_r3 (l : List Int) (v9 : Int) : Prop := VRs (Ren.emb [(10, 11, 0)]) (A_growth_yearsAreDefined_1 (at_ 0 l v9)) [I ((at_ 0 l v9)), .pointer (some ⟨11, 0, none⟩)]
abbrev growth_all_r4 (holds_0 : Int) : Prop := MemAt (Ren.emb [(10, 11, 0)]) [I (holds_0)] 0 [I (holds_0)] ∧ True
abbrev growth_all_r5 (l : List Int) (holds_0 : Int) (v9 : Int) : Prop := VR (Ren.emb [(10, 11, 0)]) (.bool (growth_yearsAreDefined_1 (at_ 0 l v9) holds_0)) (.bool (growth_yearsAreDefined_1 (at_ 0 l v9) holds_0))
theorem growth_all_p6 (l : List Int) (v9 : Int) : (growth_all_r3 l v9) := (.cons _ _ _ _ (VR.of_pf rfl) (.cons _ _ _ _ (.ptr 10 0 ⟨11, 0, 0, 0⟩ rfl) .nil))
noncomputable abbrev growth_all_i7 (l : List Int) (holds_0 : Int) (v9 : Int) : Hint := (hB (hM (.bool (growth_yearsAreDefined_1 (at_ 0 l v9) holds_0)) (.bool (growth_yearsAreDefined_1 (at_ 0 l v9) holds_0)) (A_growth_yearsAreDefined_1 (at_ 0 l v9)) (K_growth_yearsAreDefined_1 holds_0) [(10, 11, 0)]) false)
abbrev A_growth_all (l : List Int) (q10 : Nat) : List Value := [.slice (some ⟨10, 0, none⟩) (l.length) (q10), .func (.func 118) #[] #[.pointer (some ⟨11, 0, none⟩)]]
abbrev K_growth_all (l : List Int) (holds_0 : Int) : List (Nat × List Value) := [(10, encL cInt l), (11, [I (holds_0)])]
noncomputable def growth_all_L (fu : Nat) (l : List Int) (holds_0 : Int) : Nat → (Bool → Int → Option Bool)
  | 0 => (fun _ _ => none)
  | fk + 1 => (fun v4 v9 => bif decide (v9 < ((l.length : Nat) : Int)) then (bif decide (0 ≤ v9 ∧ v9 < ((l.length : Nat) : Int)) then (bif growth_yearsAreDefined_1 (at_ 0 l v9) holds_0 then growth_all_L fu l holds_0 fk v4 (W (v9 + 1))
        else some false) else none)
      else some true)
theorem growth_all_L_s0 (fu : Nat) (l : List Int) (holds_0 : Int) (fk : Nat) (v4 : Bool) (v9 : Int) : growth_all_L fu l holds_0 (fk + 1) v4 v9 = (bif decide (v9 < ((l.length : Nat) : Int)) then (bif decide (0 ≤ v9 ∧ v9 < ((l.length : Nat) : Int)) then (bif growth_yearsAreDefined_1 (at_ 0 l v9) holds_0 then growth_all_L fu l holds_0 fk v4 (W (v9 + 1))
        else some false) else none)
      else some true) := rfl
noncomputable def growth_all (fu : Nat) (l : List Int) (holds_0 : Int) : Option Bool :=
  growth_all_L fu l holds_0 fu false 0
theorem growth_all_L_fs (fu : Nat) (l : List Int) (holds_0 : Int) (q10 : Nat) : ∀ fk, (∀ (v4 : Bool) (v9 : Int) (r : Bool), growth_all_L fu l holds_0 fk v4 v9 = some r → FSat P GG Tryd.f117 (.bool (r)) (ids (looses [(10, encL cInt l), (11, [I (holds_0)])])) 18 [.lp (cA (bodyOf Tryd.f117) [1, 0, 1, 0, 0]), .blk 0, .code (cA (bodyOf Tryd.f117) [1, 1])] (tOf 18 [(1, .func (.func 118) #[] #[.pointer (some ⟨11, 0, none⟩)]), (4, .bool (v4)), (7, .slice (some ⟨10, 0, none⟩) (l.length) (q10)), (8, I (((l.length : Nat) : Int))), (9, I (v9))]) (mOf 100 [(0, .rom [I (1), I (2), I (3)] .glob), (10, .rom (encL cInt l) .loose), (11, .rom ([I (holds_0)]) .loose)])) := by
  intro fk
  induction fk with
  | zero => exact fun _ _ r hh => by cases hh
  | succ fk ih =>
    · intro v4 v9 r hh
      rcases Bool.eq_false_or_eq_true (decide (v9 < ((l.length : Nat) : Int))) with h1 | h1
      · skip
        rcases Bool.eq_false_or_eq_true (decide (0 ≤ v9 ∧ v9 < ((l.length : Nat) : Int))) with h2 | h2
        rotate_left
        · skip
          have e : growth_all_L fu l holds_0 (fk + 1) v4 v9 = none := by rw [growth_all_L_s0]; rw [h1, cond_true, h2, cond_false]; first | done | rfl
          rw [e] at hh; cases hh
        · skip
          rcases Bool.eq_false_or_eq_true (growth_yearsAreDefined_1 (at_ 0 l v9) holds_0) with h3 | h3
          · skip
            have e : growth_all_L fu l holds_0 (fk + 1) v4 v9 = growth_all_L fu l holds_0 fk v4 (W (v9 + 1)) := by rw [growth_all_L_s0]; rw [h1, cond_true, h2, cond_true, h3, cond_true]; first | done | rfl
            rw [e] at hh
            have nx := ih v4 (W (v9 + 1)) r hh
            refine FSat.stop pfT (fuel := 22) (hs := [hT, hX, (hL (I ((at_ 0 l v9)))), hE, hE, hE, (growth_all_i0 l holds_0 v9), hE, hE, hE]) (ss := [.go, .st [1, 4, 7, 8, 9] [0, 10, 11]]) (R := [(decide (v9 < ((l.length : Nat) : Int))) = true, 0 ≤ v9 ∧ v9 < ((l.length : Nat) : Int), (growth_all_r1 l v9), (growth_all_r2 l holds_0 v9), (growth_all_r3 l v9), (growth_all_r4 holds_0), (growth_all_r5 l holds_0 v9), (growth_yearsAreDefined_1 (at_ 0 l v9) holds_0) = true]) (by kernel_rfl) ⟨h1, of_decide_eq_true h2, RowLd.part cInt_len _ rfl rfl _ _ (of_decide_eq_true h2) 0 _ rfl (by decide), growth_yearsAreDefined_1_fc (at_ 0 l v9) holds_0, growth_all_p6 l v9, ⟨MemAt.of (.cons _ _ _ _ (VR.of_pf rfl) .nil), trivial⟩, selfB_self 9 _ rfl _, h3, trivial⟩ 100 (by kernel_rfl) ?_ nx
            exact ⟨PinL.lit (by kernel_rfl), PinL.pf (encL_pf cInt_pf _), PinL.lit (by kernel_rfl), trivial⟩
          · skip
            have e : growth_all_L fu l holds_0 (fk + 1) v4 v9 = some false := by rw [growth_all_L_s0]; rw [h1, cond_true, h2, cond_true, h3, cond_false]; first | done | rfl
            rw [e] at hh
            have hr := Option.some.inj hh
            rw [← hr]
            exact FSat.done pfT (fuel := 21) (hs := [hT, hX, (hL (I ((at_ 0 l v9)))), hE, hE, hE, (growth_all_i7 l holds_0 v9), hE, hE]) (ss := [.go]) (R := [(decide (v9 < ((l.length : Nat) : Int))) = true, 0 ≤ v9 ∧ v9 < ((l.length : Nat) : Int), (growth_all_r1 l v9), (growth_all_r2 l holds_0 v9), (growth_all_r3 l v9), (growth_all_r4 holds_0), (growth_all_r5 l holds_0 v9), (growth_yearsAreDefined_1 (at_ 0 l v9) holds_0) = false]) (by kernel_rfl) ⟨h1, of_decide_eq_true h2, RowLd.part cInt_len _ rfl rfl _ _ (of_decide_eq_true h2) 0 _ rfl (by decide), growth_yearsAreDefined_1_fc (at_ 0 l v9) holds_0, growth_all_p6 l v9, ⟨MemAt.of (.cons _ _ _ _ (VR.of_pf rfl) .nil), trivial⟩, selfB_self 9 _ rfl _, h3, trivial⟩ (by kernel_rfl)
      · skip
        have e : growth_all_L fu l holds_0 (fk + 1) v4 v9 = some true := by rw [growth_all_L_s0]; rw [h1, cond_false]; first | done | rfl
        rw [e] at hh
        have hr := Option.some.inj hh
        rw [← hr]
        exact FSat.done pfT (fuel := 14) (hs := [hF, hE]) (ss := [.go]) (R := [(decide (v9 < ((l.length : Nat) : Int))) = false]) (by kernel_rfl) ⟨h1, trivial⟩ (by kernel_rfl)
theorem growth_all_fc (fu : Nat) (l : List Int) (holds_0 : Int) (q10 : Nat) (r : Bool) (hh : growth_all fu l holds_0 = some r) : FC P GG 117 [.slice (some ⟨10, 0, none⟩) (l.length) (q10), .func (.func 118) #[] #[.pointer (some ⟨11, 0, none⟩)]] [(10, encL cInt l), (11, [I (holds_0)])] (.bool (r)) := by
  refine FC.of_fsat 18 100 Tryd.func117 (by kernel_rfl) (by kernel_rfl) (by kernel_rfl) ⟨PinL.pf (encL_pf cInt_pf _), PinL.lit (by kernel_rfl), trivial⟩ ?_
  have e : growth_all fu l holds_0 = growth_all_L fu l holds_0 fu false 0 := by unfold growth_all; rfl
  rw [e] at hh
  have nx := growth_all_L_fs fu l holds_0 q10 fu false 0 r hh
  refine FSat.stop pfT (fuel := 13) (hs := (hR 4 [])) (ss := [.st [1, 4, 7, 8, 9] [0, 10, 11]]) (R := []) (by kernel_rfl) trivial 100 (by kernel_rfl) ?_ nx
  exact ⟨PinL.lit (by kernel_rfl), PinL.pf (encL_pf cInt_pf _), PinL.lit (by kernel_rfl), trivial⟩

/- greenhew/growth.yearsAreDefined -/
noncomputable abbrev growth_yearsAreDefined_i0 (table : List Int) : Hint := (hB (hC (.bool (growth_within ((table.length : Nat) : Int) 1 60))) true)
noncomputable abbrev growth_yearsAreDefined_i1 (table : List Int) (most : Int) (q10 : Nat) (x2 : Bool) : Hint := (hM (.bool (x2)) (.bool (x2)) (A_growth_all table q10) (K_growth_all table most) [(10, 10, 0), (11, 100, 0)])
abbrev growth_yearsAreDefined_r2 (table : List Int) : Prop := FC P GG 94 (A_growth_within ((table.length : Nat) : Int) 1 60) [] (.bool (growth_within ((table.length : Nat) : Int) 1 60))
abbrev growth_yearsAreDefined_r3 (table : List Int) (most : Int) (q10 : Nat) (x2 : Bool) : Prop := FC P GG 117 (A_growth_all table q10) (K_growth_all table most) (.bool (x2))
abbrev growth_yearsAreDefined_r4 (table : List Int) (q10 : Nat) : Prop := VRs (Ren.emb [(10, 10, 0), (11, 100, 0)]) (A_growth_all table q10) [.slice (some ⟨10, 0, none⟩) (table.length) (q10), .func (.func 118) #[] #[.pointer (some ⟨100, 0, none⟩)]]
abbrev growth_yearsAreDefined_r5 (table : List Int) (most : Int) : Prop := MemAt (Ren.emb [(10, 10, 0), (11, 100, 0)]) (encL cInt table) 0 (encL cInt table) ∧ MemAt (Ren.emb [(10, 10, 0), (11, 100, 0)]) [I (most)] 0 [I (most)] ∧ True
abbrev growth_yearsAreDefined_r6 (x2 : Bool) : Prop := VR (Ren.emb [(10, 10, 0), (11, 100, 0)]) (.bool (x2)) (.bool (x2))
theorem growth_yearsAreDefined_p7 (table : List Int) (q10 : Nat) : (growth_yearsAreDefined_r4 table q10) := (.cons _ _ _ _ (.slc 10 0 _ _ _ ⟨10, 0, 0, 0⟩ rfl (.inl rfl)) (.cons _ _ _ _ (.func _ _ _ _ _ (fun _ h => by cases h) .nil (.cons _ _ _ _ (.ptr 11 0 ⟨100, 0, 0, 0⟩ rfl) .nil)) .nil))
theorem growth_yearsAreDefined_p8 (table : List Int) (most : Int) : (growth_yearsAreDefined_r5 table most) := ⟨MemAt.same _ (encL_pf cInt_pf _), MemAt.of (.cons _ _ _ _ (VR.of_pf rfl) .nil), trivial⟩
noncomputable abbrev growth_yearsAreDefined_i9 (table : List Int) : Hint := (hB (hC (.bool (growth_within ((table.length : Nat) : Int) 1 60))) false)
abbrev A_growth_yearsAreDefined (table : List Int) (most : Int) (q10 : Nat) : List Value := [.slice (some ⟨10, 0, none⟩) (table.length) (q10), I (most)]
abbrev K_growth_yearsAreDefined (table : List Int) : List (Nat × List Value) := [(10, encL cInt table)]
noncomputable def growth_yearsAreDefined (fu : Nat) (table : List Int) (most : Int) : Option Bool :=
  bif growth_within ((table.length : Nat) : Int) 1 60 then (Option.bind (growth_all fu table most) fun x2 =>
    some x2)
  else some false
theorem growth_yearsAreDefined_fc (fu : Nat) (table : List Int) (most : Int) (q10 : Nat) (r : Bool) (hh : growth_yearsAreDefined fu table most = some r) : FC P GG 93 [.slice (some ⟨10, 0, none⟩) (table.length) (q10), I (most)] [(10, encL cInt table)] (.bool (r)) := by
  refine FC.of_fsat 13 100 Tryd.func93 (by kernel_rfl) (by kernel_rfl) (by kernel_rfl) ⟨PinL.pf (encL_pf cInt_pf _), trivial⟩ ?_
  rcases Bool.eq_false_or_eq_true (growth_within ((table.length : Nat) : Int) 1 60) with h1 | h1
  · skip
    cases h2 : growth_all fu table most with
    | none =>
      have e : growth_yearsAreDefined fu table most = none := by unfold growth_yearsAreDefined; rw [h1, cond_true, h2, Option.bind_none]; first | done | rfl
      rw [e] at hh; cases hh
    | some x2 =>
      have e : growth_yearsAreDefined fu table most = some x2 := by unfold growth_yearsAreDefined; rw [h1, cond_true, h2, Option.bind_some]; first | done | rfl
      rw [e] at hh
      have hr := Option.some.inj hh
      rw [← hr]
      exact FSat.done pfT (fuel := 10) (hs := (hR 4 [(growth_yearsAreDefined_i0 table), hE, hE, hE, (growth_yearsAreDefined_i1 table most q10 x2), hE, hE])) (ss := []) (R := [(growth_yearsAreDefined_r2 table), (growth_within ((table.length : Nat) : Int) 1 60) = true, (growth_yearsAreDefined_r3 table most q10 x2), (growth_yearsAreDefined_r4 table q10), (growth_yearsAreDefined_r5 table most), (growth_yearsAreDefined_r6 x2)]) (by kernel_rfl) ⟨growth_within_fc ((table.length : Nat) : Int) 1 60, h1, growth_all_fc fu table most q10 x2 h2, growth_yearsAreDefined_p7 table q10, growth_yearsAreDefined_p8 table most, selfB_self 9 _ rfl _, trivial⟩ (by kernel_rfl)
  · skip
    have e : growth_yearsAreDefined fu table most = some false := by unfold growth_yearsAreDefined; rw [h1, cond_false]; first | done | rfl
    rw [e] at hh
    have hr := Option.some.inj hh
    rw [← hr]
    exact FSat.done pfT (fuel := 10) (hs := (hR 4 [(growth_yearsAreDefined_i9 table), hE, hE, hE])) (ss := []) (R := [(growth_yearsAreDefined_r2 table), (growth_within ((table.length : Nat) : Int) 1 60) = false]) (by kernel_rfl) ⟨growth_within_fc ((table.length : Nat) : Int) 1 60, h1, trivial⟩ (by kernel_rfl)

/- greenhew/growth.ladderIsDefined -/
noncomputable abbrev growth_ladderIsDefined_i0 (l : List XRung) (v10 : Int) : Hint := (hL (.agg #[I ((at_ zXRung l v10).Height), I ((at_ zXRung l v10).Shoots)]))
noncomputable abbrev growth_ladderIsDefined_i1 (l : List XRung) (v10 : Int) : Hint := (hB (hC (.bool (growth_within ((at_ zXRung l v10).Height) 1 40000))) true)
noncomputable abbrev growth_ladderIsDefined_i2 (l : List XRung) (v10 : Int) : Hint := (hB (hC (.bool (growth_within ((at_ zXRung l v10).Shoots) 0 300))) true)
abbrev growth_ladderIsDefined_r3 (l : List XRung) (v10 : Int) : Prop := RowLd P 119 (encL cXRung l) (0 + v10.toNat * 2) (.agg #[I ((at_ zXRung l v10).Height), I ((at_ zXRung l v10).Shoots)])
abbrev growth_ladderIsDefined_r4 (l : List XRung) (v10 : Int) : Prop := FC P GG 94 (A_growth_within ((at_ zXRung l v10).Height) 1 40000) [] (.bool (growth_within ((at_ zXRung l v10).Height) 1 40000))
abbrev growth_ladderIsDefined_r5 (l : List XRung) (v10 : Int) : Prop := FC P GG 94 (A_growth_within ((at_ zXRung l v10).Shoots) 0 300) [] (.bool (growth_within ((at_ zXRung l v10).Shoots) 0 300))
abbrev growth_ladderIsDefined_r6 (l : List XRung) (v10 : Int) : Prop := 0 ≤ (W (v10 - 1)) ∧ (W (v10 - 1)) < ((l.length : Nat) : Int)
abbrev growth_ladderIsDefined_r7 (l : List XRung) (v10 : Int) : Prop := RowLd P 3 (encL cXRung l) (0 + (W (v10 - 1)).toNat * 2) (I ((at_ zXRung l (W (v10 - 1))).Height))
abbrev growth_ladderIsDefined_r8 (l : List XRung) (v10 : Int) : Prop := (decide (((at_ zXRung l v10).Height) ≤ ((at_ zXRung l (W (v10 - 1))).Height))) = true
abbrev growth_ladderIsDefined_r9 (l : List XRung) (v10 : Int) : Prop := (decide (((at_ zXRung l v10).Height) ≤ ((at_ zXRung l (W (v10 - 1))).Height))) = false
abbrev growth_ladderIsDefined_r10 (l : List XRung) (v10 : Int) : Prop := RowLd P 3 (encL cXRung l) (0 + (W (v10 - 1)).toNat * 2 + 1) (I ((at_ zXRung l (W (v10 - 1))).Shoots))
abbrev growth_ladderIsDefined_r11 (l : List XRung) (v10 : Int) : Prop := (decide (((at_ zXRung l v10).Shoots) ≥ ((at_ zXRung l (W (v10 - 1))).Shoots))) = true
abbrev growth_ladderIsDefined_r12 (l : List XRung) (v10 : Int) : Prop := (decide (((at_ zXRung l v10).Shoots) ≥ ((at_ zXRung l (W (v10 - 1))).Shoots))) = false
noncomputable abbrev growth_ladderIsDefined_i13 (l : List XRung) (v10 : Int) : Hint := (hB (hC (.bool (growth_within ((at_ zXRung l v10).Shoots) 0 300))) false)
noncomputable abbrev growth_ladderIsDefined_i14 (l : List XRung) (v10 : Int) : Hint := (hB (hC (.bool (growth_within ((at_ zXRung l v10).Height) 1 40000))) false)
abbrev A_growth_ladderIsDefined (l : List XRung) (q10 : Nat) : List Value := [.slice (some ⟨10, 0, none⟩) (l.length) (q10)]
abbrev K_growth_ladderIsDefined (l : List XRung) : List (Nat × List Value) := [(10, encL cXRung l)]
noncomputable def growth_ladderIsDefined_L (fu : Nat) (l : List XRung) : Nat → (Bool → Int → Option Bool)
  | 0 => (fun _ _ => none)
  | fk + 1 => (fun v2 v10 => bif decide (v10 < ((l.length : Nat) : Int)) then (bif decide (0 ≤ v10 ∧ v10 < ((l.length : Nat) : Int)) then (bif growth_within ((at_ zXRung l v10).Height) 1 40000 then (bif growth_within ((at_ zXRung l v10).Shoots) 0 300 then (bif decide (v10 > 0) then (bif decide (0 ≤ (W (v10 - 1)) ∧ (W (v10 - 1)) < ((l.length : Nat) : Int)) then (bif decide (((at_ zXRung l v10).Height) ≤ ((at_ zXRung l (W (v10 - 1))).Height)) then some false
              else (bif decide (((at_ zXRung l v10).Shoots) ≥ ((at_ zXRung l (W (v10 - 1))).Shoots)) then some false
                else growth_ladderIsDefined_L fu l fk v2 (W (v10 + 1)))) else none)
            else growth_ladderIsDefined_L fu l fk v2 (W (v10 + 1)))
          else some false)
        else some false) else none)
      else some true)
theorem growth_ladderIsDefined_L_s0 (fu : Nat) (l : List XRung) (fk : Nat) (v2 : Bool) (v10 : Int) : growth_ladderIsDefined_L fu l (fk + 1) v2 v10 = (bif decide (v10 < ((l.length : Nat) : Int)) then (bif decide (0 ≤ v10 ∧ v10 < ((l.length : Nat) : Int)) then (bif growth_within ((at_ zXRung l v10).Height) 1 40000 then (bif growth_within ((at_ zXRung l v10).Shoots) 0 300 then (bif decide (v10 > 0) then (bif decide (0 ≤ (W (v10 - 1)) ∧ (W (v10 - 1)) < ((l.length : Nat) : Int)) then (bif decide (((at_ zXRung l v10).Height) ≤ ((at_ zXRung l (W (v10 - 1))).Height)) then some false
              else (bif decide (((at_ zXRung l v10).Shoots) ≥ ((at_ zXRung l (W (v10 - 1))).Shoots)) then some false
                else growth_ladderIsDefined_L fu l fk v2 (W (v10 + 1)))) else none)
            else growth_ladderIsDefined_L fu l fk v2 (W (v10 + 1)))
          else some false)
        else some false) else none)
      else some true) := rfl
noncomputable def growth_ladderIsDefined (fu : Nat) (l : List XRung) : Option Bool :=
  bif decide (((l.length : Nat) : Int) > 20) then some false
  else growth_ladderIsDefined_L fu l fu false 0
theorem growth_ladderIsDefined_L_fs (fu : Nat) (l : List XRung) (q10 : Nat) : ∀ fk, (∀ (v2 : Bool) (v10 : Int) (r : Bool), growth_ladderIsDefined_L fu l fk v2 v10 = some r → FSat P GG Tryd.f95 (.bool (r)) (ids (looses [(10, encL cXRung l)])) 50 [.lp (cA (bodyOf Tryd.f95) [1, 1, 0, 1, 0, 0]), .blk 0, .code (cA (bodyOf Tryd.f95) [1, 1, 1])] (tOf 50 [(0, .slice (some ⟨10, 0, none⟩) (l.length) (q10)), (2, .bool (v2)), (8, .slice (some ⟨10, 0, none⟩) (l.length) (q10)), (9, I (((l.length : Nat) : Int))), (10, I (v10))]) (mOf 100 [(0, .rom [I (1), I (2), I (3)] .glob), (10, .rom (encL cXRung l) .loose)])) := by
  intro fk
  induction fk with
  | zero => exact fun _ _ r hh => by cases hh
  | succ fk ih =>
    · intro v2 v10 r hh
      rcases Bool.eq_false_or_eq_true (decide (v10 < ((l.length : Nat) : Int))) with h1 | h1
      · skip
        rcases Bool.eq_false_or_eq_true (decide (0 ≤ v10 ∧ v10 < ((l.length : Nat) : Int))) with h2 | h2
        rotate_left
        · skip
          have e : growth_ladderIsDefined_L fu l (fk + 1) v2 v10 = none := by rw [growth_ladderIsDefined_L_s0]; rw [h1, cond_true, h2, cond_false]; first | done | rfl
          rw [e] at hh; cases hh
        · skip
          rcases Bool.eq_false_or_eq_true (growth_within ((at_ zXRung l v10).Height) 1 40000) with h3 | h3
          · skip
            rcases Bool.eq_false_or_eq_true (growth_within ((at_ zXRung l v10).Shoots) 0 300) with h4 | h4
            · skip
              rcases Bool.eq_false_or_eq_true (decide (v10 > 0)) with h5 | h5
              · skip
                rcases Bool.eq_false_or_eq_true (decide (0 ≤ (W (v10 - 1)) ∧ (W (v10 - 1)) < ((l.length : Nat) : Int))) with h6 | h6
                rotate_left
                · skip
                  have e : growth_ladderIsDefined_L fu l (fk + 1) v2 v10 = none := by rw [growth_ladderIsDefined_L_s0]; rw [h1, cond_true, h2, cond_true, h3, cond_true, h4, cond_true, h5, cond_true, h6, cond_false]; first | done | rfl
                  rw [e] at hh; cases hh
                · skip
                  rcases Bool.eq_false_or_eq_true (decide (((at_ zXRung l v10).Height) ≤ ((at_ zXRung l (W (v10 - 1))).Height))) with h7 | h7
                  · skip
                    have e : growth_ladderIsDefined_L fu l (fk + 1) v2 v10 = some false := by rw [growth_ladderIsDefined_L_s0]; rw [h1, cond_true, h2, cond_true, h3, cond_true, h4, cond_true, h5, cond_true, h6, cond_true, h7, cond_true]; first | done | rfl
                    rw [e] at hh
                    have hr := Option.some.inj hh
                    rw [← hr]
                    exact FSat.done pfT (fuel := 26) (hs := (hT :: hE :: hX :: (growth_ladderIsDefined_i0 l v10) :: (hR 5 ((growth_ladderIsDefined_i1 l v10) :: (hR 4 ((growth_ladderIsDefined_i2 l v10) :: hE :: hE :: hE :: hT :: (hR 6 (hX :: hE :: (hL (I ((at_ zXRung l (W (v10 - 1))).Height))) :: hT :: (hR 4 []))))))))) (ss := [.go]) (R := [(decide (v10 < ((l.length : Nat) : Int))) = true, 0 ≤ v10 ∧ v10 < ((l.length : Nat) : Int), (growth_ladderIsDefined_r3 l v10), (growth_ladderIsDefined_r4 l v10), (growth_within ((at_ zXRung l v10).Height) 1 40000) = true, (growth_ladderIsDefined_r5 l v10), (growth_within ((at_ zXRung l v10).Shoots) 0 300) = true, (decide (v10 > 0)) = true, (growth_ladderIsDefined_r6 l v10), (growth_ladderIsDefined_r7 l v10), (growth_ladderIsDefined_r8 l v10)]) (by kernel_rfl) ⟨h1, of_decide_eq_true h2, RowLd.elem cXRung_len _ (.inl ⟨_, rfl⟩) rfl rfl _ _ (of_decide_eq_true h2), growth_within_fc ((at_ zXRung l v10).Height) 1 40000, h3, growth_within_fc ((at_ zXRung l v10).Shoots) 0 300, h4, h5, of_decide_eq_true h6, RowLd.part cXRung_len _ rfl rfl _ _ (of_decide_eq_true h6) 0 _ rfl (by decide), h7, trivial⟩ (by kernel_rfl)
                  · skip
                    rcases Bool.eq_false_or_eq_true (decide (((at_ zXRung l v10).Shoots) ≥ ((at_ zXRung l (W (v10 - 1))).Shoots))) with h8 | h8
                    · skip
                      have e : growth_ladderIsDefined_L fu l (fk + 1) v2 v10 = some false := by rw [growth_ladderIsDefined_L_s0]; rw [h1, cond_true, h2, cond_true, h3, cond_true, h4, cond_true, h5, cond_true, h6, cond_true, h7, cond_false, h8, cond_true]; first | done | rfl
                      rw [e] at hh
                      have hr := Option.some.inj hh
                      rw [← hr]
                      exact FSat.done pfT (fuel := 26) (hs := (hT :: hE :: hX :: (growth_ladderIsDefined_i0 l v10) :: (hR 5 ((growth_ladderIsDefined_i1 l v10) :: (hR 4 ((growth_ladderIsDefined_i2 l v10) :: hE :: hE :: hE :: hT :: (hR 6 (hX :: hE :: (hL (I ((at_ zXRung l (W (v10 - 1))).Height))) :: hF :: (hR 6 [hX, hE, (hL (I ((at_ zXRung l (W (v10 - 1))).Shoots))), hT, hE, hE, hE]))))))))) (ss := [.go]) (R := [(decide (v10 < ((l.length : Nat) : Int))) = true, 0 ≤ v10 ∧ v10 < ((l.length : Nat) : Int), (growth_ladderIsDefined_r3 l v10), (growth_ladderIsDefined_r4 l v10), (growth_within ((at_ zXRung l v10).Height) 1 40000) = true, (growth_ladderIsDefined_r5 l v10), (growth_within ((at_ zXRung l v10).Shoots) 0 300) = true, (decide (v10 > 0)) = true, (growth_ladderIsDefined_r6 l v10), (growth_ladderIsDefined_r7 l v10), (growth_ladderIsDefined_r9 l v10), (growth_ladderIsDefined_r6 l v10), (growth_ladderIsDefined_r10 l v10), (growth_ladderIsDefined_r11 l v10)]) (by kernel_rfl) ⟨h1, of_decide_eq_true h2, RowLd.elem cXRung_len _ (.inl ⟨_, rfl⟩) rfl rfl _ _ (of_decide_eq_true h2), growth_within_fc ((at_ zXRung l v10).Height) 1 40000, h3, growth_within_fc ((at_ zXRung l v10).Shoots) 0 300, h4, h5, of_decide_eq_true h6, RowLd.part cXRung_len _ rfl rfl _ _ (of_decide_eq_true h6) 0 _ rfl (by decide), h7, of_decide_eq_true h6, RowLd.part cXRung_len _ rfl rfl _ _ (of_decide_eq_true h6) 1 _ rfl (by decide), h8, trivial⟩ (by kernel_rfl)
                    · skip
                      have e : growth_ladderIsDefined_L fu l (fk + 1) v2 v10 = growth_ladderIsDefined_L fu l fk v2 (W (v10 + 1)) := by rw [growth_ladderIsDefined_L_s0]; rw [h1, cond_true, h2, cond_true, h3, cond_true, h4, cond_true, h5, cond_true, h6, cond_true, h7, cond_false, h8, cond_false]; first | done | rfl
                      rw [e] at hh
                      have nx := ih v2 (W (v10 + 1)) r hh
                      refine FSat.stop pfT (fuel := 27) (hs := (hT :: hE :: hX :: (growth_ladderIsDefined_i0 l v10) :: (hR 5 ((growth_ladderIsDefined_i1 l v10) :: (hR 4 ((growth_ladderIsDefined_i2 l v10) :: hE :: hE :: hE :: hT :: (hR 6 (hX :: hE :: (hL (I ((at_ zXRung l (W (v10 - 1))).Height))) :: hF :: (hR 6 (hX :: hE :: (hL (I ((at_ zXRung l (W (v10 - 1))).Shoots))) :: hF :: (hR 4 []))))))))))) (ss := [.go, .st [0, 2, 8, 9, 10] [0, 10]]) (R := [(decide (v10 < ((l.length : Nat) : Int))) = true, 0 ≤ v10 ∧ v10 < ((l.length : Nat) : Int), (growth_ladderIsDefined_r3 l v10), (growth_ladderIsDefined_r4 l v10), (growth_within ((at_ zXRung l v10).Height) 1 40000) = true, (growth_ladderIsDefined_r5 l v10), (growth_within ((at_ zXRung l v10).Shoots) 0 300) = true, (decide (v10 > 0)) = true, (growth_ladderIsDefined_r6 l v10), (growth_ladderIsDefined_r7 l v10), (growth_ladderIsDefined_r9 l v10), (growth_ladderIsDefined_r6 l v10), (growth_ladderIsDefined_r10 l v10), (growth_ladderIsDefined_r12 l v10)]) (by kernel_rfl) ⟨h1, of_decide_eq_true h2, RowLd.elem cXRung_len _ (.inl ⟨_, rfl⟩) rfl rfl _ _ (of_decide_eq_true h2), growth_within_fc ((at_ zXRung l v10).Height) 1 40000, h3, growth_within_fc ((at_ zXRung l v10).Shoots) 0 300, h4, h5, of_decide_eq_true h6, RowLd.part cXRung_len _ rfl rfl _ _ (of_decide_eq_true h6) 0 _ rfl (by decide), h7, of_decide_eq_true h6, RowLd.part cXRung_len _ rfl rfl _ _ (of_decide_eq_true h6) 1 _ rfl (by decide), h8, trivial⟩ 100 (by kernel_rfl) ?_ nx
                      exact ⟨PinL.lit (by kernel_rfl), PinL.pf (encL_pf cXRung_pf _), trivial⟩
              · skip
                have e : growth_ladderIsDefined_L fu l (fk + 1) v2 v10 = growth_ladderIsDefined_L fu l fk v2 (W (v10 + 1)) := by rw [growth_ladderIsDefined_L_s0]; rw [h1, cond_true, h2, cond_true, h3, cond_true, h4, cond_true, h5, cond_false]; first | done | rfl
                rw [e] at hh
                have nx := ih v2 (W (v10 + 1)) r hh
                refine FSat.stop pfT (fuel := 27) (hs := (hT :: hE :: hX :: (growth_ladderIsDefined_i0 l v10) :: (hR 5 ((growth_ladderIsDefined_i1 l v10) :: (hR 4 ((growth_ladderIsDefined_i2 l v10) :: hE :: hE :: hE :: hF :: (hR 4 []))))))) (ss := [.go, .st [0, 2, 8, 9, 10] [0, 10]]) (R := [(decide (v10 < ((l.length : Nat) : Int))) = true, 0 ≤ v10 ∧ v10 < ((l.length : Nat) : Int), (growth_ladderIsDefined_r3 l v10), (growth_ladderIsDefined_r4 l v10), (growth_within ((at_ zXRung l v10).Height) 1 40000) = true, (growth_ladderIsDefined_r5 l v10), (growth_within ((at_ zXRung l v10).Shoots) 0 300) = true, (decide (v10 > 0)) = false]) (by kernel_rfl) ⟨h1, of_decide_eq_true h2, RowLd.elem cXRung_len _ (.inl ⟨_, rfl⟩) rfl rfl _ _ (of_decide_eq_true h2), growth_within_fc ((at_ zXRung l v10).Height) 1 40000, h3, growth_within_fc ((at_ zXRung l v10).Shoots) 0 300, h4, h5, trivial⟩ 100 (by kernel_rfl) ?_ nx
                exact ⟨PinL.lit (by kernel_rfl), PinL.pf (encL_pf cXRung_pf _), trivial⟩
            · skip
              have e : growth_ladderIsDefined_L fu l (fk + 1) v2 v10 = some false := by rw [growth_ladderIsDefined_L_s0]; rw [h1, cond_true, h2, cond_true, h3, cond_true, h4, cond_false]; first | done | rfl
              rw [e] at hh
              have hr := Option.some.inj hh
              rw [← hr]
              exact FSat.done pfT (fuel := 22) (hs := (hT :: hE :: hX :: (growth_ladderIsDefined_i0 l v10) :: (hR 5 ((growth_ladderIsDefined_i1 l v10) :: (hR 4 [(growth_ladderIsDefined_i13 l v10), hE, hE, hE]))))) (ss := [.go]) (R := [(decide (v10 < ((l.length : Nat) : Int))) = true, 0 ≤ v10 ∧ v10 < ((l.length : Nat) : Int), (growth_ladderIsDefined_r3 l v10), (growth_ladderIsDefined_r4 l v10), (growth_within ((at_ zXRung l v10).Height) 1 40000) = true, (growth_ladderIsDefined_r5 l v10), (growth_within ((at_ zXRung l v10).Shoots) 0 300) = false]) (by kernel_rfl) ⟨h1, of_decide_eq_true h2, RowLd.elem cXRung_len _ (.inl ⟨_, rfl⟩) rfl rfl _ _ (of_decide_eq_true h2), growth_within_fc ((at_ zXRung l v10).Height) 1 40000, h3, growth_within_fc ((at_ zXRung l v10).Shoots) 0 300, h4, trivial⟩ (by kernel_rfl)
          · skip
            have e : growth_ladderIsDefined_L fu l (fk + 1) v2 v10 = some false := by rw [growth_ladderIsDefined_L_s0]; rw [h1, cond_true, h2, cond_true, h3, cond_false]; first | done | rfl
            rw [e] at hh
            have hr := Option.some.inj hh
            rw [← hr]
            exact FSat.done pfT (fuel := 22) (hs := (hT :: hE :: hX :: (growth_ladderIsDefined_i0 l v10) :: (hR 5 ((growth_ladderIsDefined_i14 l v10) :: (hR 4 []))))) (ss := [.go]) (R := [(decide (v10 < ((l.length : Nat) : Int))) = true, 0 ≤ v10 ∧ v10 < ((l.length : Nat) : Int), (growth_ladderIsDefined_r3 l v10), (growth_ladderIsDefined_r4 l v10), (growth_within ((at_ zXRung l v10).Height) 1 40000) = false]) (by kernel_rfl) ⟨h1, of_decide_eq_true h2, RowLd.elem cXRung_len _ (.inl ⟨_, rfl⟩) rfl rfl _ _ (of_decide_eq_true h2), growth_within_fc ((at_ zXRung l v10).Height) 1 40000, h3, trivial⟩ (by kernel_rfl)
      · skip
        have e : growth_ladderIsDefined_L fu l (fk + 1) v2 v10 = some true := by rw [growth_ladderIsDefined_L_s0]; rw [h1, cond_false]; first | done | rfl
        rw [e] at hh
        have hr := Option.some.inj hh
        rw [← hr]
        exact FSat.done pfT (fuel := 14) (hs := [hF, hE]) (ss := [.go]) (R := [(decide (v10 < ((l.length : Nat) : Int))) = false]) (by kernel_rfl) ⟨h1, trivial⟩ (by kernel_rfl)
theorem growth_ladderIsDefined_fc (fu : Nat) (l : List XRung) (q10 : Nat) (r : Bool) (hh : growth_ladderIsDefined fu l = some r) : FC P GG 95 [.slice (some ⟨10, 0, none⟩) (l.length) (q10)] [(10, encL cXRung l)] (.bool (r)) := by
  refine FC.of_fsat 50 100 Tryd.func95 (by kernel_rfl) (by kernel_rfl) (by kernel_rfl) ⟨PinL.pf (encL_pf cXRung_pf _), trivial⟩ ?_
  rcases Bool.eq_false_or_eq_true (decide (((l.length : Nat) : Int) > 20)) with h1 | h1
  · skip
    have e : growth_ladderIsDefined fu l = some false := by unfold growth_ladderIsDefined; rw [h1, cond_true]; first | done | rfl
    rw [e] at hh
    have hr := Option.some.inj hh
    rw [← hr]
    exact FSat.done pfT (fuel := 14) (hs := [hE, hE, hE, hT, hE]) (ss := []) (R := [(decide (((l.length : Nat) : Int) > 20)) = true]) (by kernel_rfl) ⟨h1, trivial⟩ (by kernel_rfl)
  · skip
    have e : growth_ladderIsDefined fu l = growth_ladderIsDefined_L fu l fu false 0 := by unfold growth_ladderIsDefined; rw [h1, cond_false]; first | done | rfl
    rw [e] at hh
    have nx := growth_ladderIsDefined_L_fs fu l q10 fu false 0 r hh
    refine FSat.stop pfT (fuel := 18) (hs := [hE, hE, hE, hF, hE, hE, hE]) (ss := [.st [0, 2, 8, 9, 10] [0, 10]]) (R := [(decide (((l.length : Nat) : Int) > 20)) = false]) (by kernel_rfl) ⟨h1, trivial⟩ 100 (by kernel_rfl) ?_ nx
    exact ⟨PinL.lit (by kernel_rfl), PinL.pf (encL_pf cXRung_pf _), trivial⟩

/- greenhew/growth.isPart -/
abbrev A_growth_isPart (s : XSpan) (most : Int) : List Value := [.agg #[I (s.Low), I (s.High)], I (most)]
noncomputable def growth_isPart (s : XSpan) (most : Int) : Bool :=
  bif decide (s.Low ≥ 0) then (bif decide (s.Low ≤ s.High) then decide (s.High ≤ most)
    else false)
  else false
theorem growth_isPart_fc (s : XSpan) (most : Int) : FC P GG 107 [.agg #[I (s.Low), I (s.High)], I (most)] [] (.bool (growth_isPart s most)) := by
  refine FC.of_fsat 21 100 Tryd.func107 (by kernel_rfl) (by kernel_rfl) (by kernel_rfl) trivial ?_
  rcases Bool.eq_false_or_eq_true (decide (s.Low ≥ 0)) with h1 | h1
  · skip
    rcases Bool.eq_false_or_eq_true (decide (s.Low ≤ s.High)) with h2 | h2
    · skip
      have e : growth_isPart s most = decide (s.High ≤ most) := by unfold growth_isPart; rw [h1, cond_true, h2, cond_true]; first | done | rfl
      rw [e]
      exact FSat.done pfT (fuel := 10) (hs := (hR 4 (hT :: (hR 5 (hT :: (hR 8 [])))))) (ss := []) (R := [(decide (s.Low ≥ 0)) = true, (decide (s.Low ≤ s.High)) = true]) (by kernel_rfl) ⟨h1, h2, trivial⟩ (by kernel_rfl)
    · skip
      have e : growth_isPart s most = false := by unfold growth_isPart; rw [h1, cond_true, h2, cond_false]; first | done | rfl
      rw [e]
      exact FSat.done pfT (fuel := 10) (hs := (hR 4 (hT :: (hR 5 (hF :: (hR 4 [])))))) (ss := []) (R := [(decide (s.Low ≥ 0)) = true, (decide (s.Low ≤ s.High)) = false]) (by kernel_rfl) ⟨h1, h2, trivial⟩ (by kernel_rfl)
  · skip
    have e : growth_isPart s most = false := by unfold growth_isPart; rw [h1, cond_false]; first | done | rfl
    rw [e]
    exact FSat.done pfT (fuel := 10) (hs := (hR 4 (hF :: (hR 5 [])))) (ss := []) (R := [(decide (s.Low ≥ 0)) = false]) (by kernel_rfl) ⟨h1, trivial⟩ (by kernel_rfl)

/- greenhew/growth.sproutsAreDefined$1 -/
abbrev growth_sproutsAreDefined_1_r0 (s : XSpan) : Prop := FC P GG 107 (A_growth_isPart s 300) [] (.bool (growth_isPart s 300))
abbrev A_growth_sproutsAreDefined_1 (s : XSpan) : List Value := [.agg #[I (s.Low), I (s.High)]]
noncomputable def growth_sproutsAreDefined_1 (s : XSpan) : Bool :=
  growth_isPart s 300
theorem growth_sproutsAreDefined_1_fc (s : XSpan) : FC P GG 120 [.agg #[I (s.Low), I (s.High)]] [] (.bool (growth_sproutsAreDefined_1 s)) := by
  refine FC.of_fsat 5 100 Tryd.func120 (by kernel_rfl) (by kernel_rfl) (by kernel_rfl) trivial ?_
  have e : growth_sproutsAreDefined_1 s = growth_isPart s 300 := by unfold growth_sproutsAreDefined_1; rfl
  rw [e]
  exact FSat.done pfT (fuel := 10) (hs := [hE, hE, hE, (hC (.bool (growth_isPart s 300))), hE]) (ss := []) (R := [(growth_sproutsAreDefined_1_r0 s)]) (by kernel_rfl) ⟨growth_isPart_fc s 300, trivial⟩ (by kernel_rfl)

/- greenhew/growth.all[greenhew/api.Span] -/
noncomputable abbrev api_Span_i0 (l : List XSpan) (v9 : Int) : Hint := (hL (.agg #[I ((at_ zXSpan l v9).Low), I ((at_ zXSpan l v9).High)]))
noncomputable abbrev api_Span_i1 (l : List XSpan) (v9 : Int) : Hint := (hB (hC (.bool (growth_sproutsAreDefined_1 (at_ zXSpan l v9)))) true)
abbrev api_Span_r2 (l : List XSpan) (v9 : Int) : Prop := RowLd P 56 (encL cXSpan l) (0 + v9.toNat * 2) (.agg #[I ((at_ zXSpan l v9).Low), I ((at_ zXSpan l v9).High)])
abbrev api_Span_r3 (l : List XSpan) (v9 : Int) : Prop := FC P GG 120 (A_growth_sproutsAreDefined_1 (at_ zXSpan l v9)) [] (.bool (growth_sproutsAreDefined_1 (at_ zXSpan l v9)))
noncomputable abbrev api_Span_i4 (l : List XSpan) (v9 : Int) : Hint := (hB (hC (.bool (growth_sproutsAreDefined_1 (at_ zXSpan l v9)))) false)
abbrev A_api_Span (l : List XSpan) (q10 : Nat) : List Value := [.slice (some ⟨10, 0, none⟩) (l.length) (q10), .func (.func 120) #[] #[]]
abbrev K_api_Span (l : List XSpan) : List (Nat × List Value) := [(10, encL cXSpan l)]
noncomputable def api_Span_L (fu : Nat) (l : List XSpan) : Nat → (Bool → Int → Option Bool)
  | 0 => (fun _ _ => none)
  | fk + 1 => (fun v4 v9 => bif decide (v9 < ((l.length : Nat) : Int)) then (bif decide (0 ≤ v9 ∧ v9 < ((l.length : Nat) : Int)) then (bif growth_sproutsAreDefined_1 (at_ zXSpan l v9) then api_Span_L fu l fk v4 (W (v9 + 1))
        else some false) else none)
      else some true)
theorem api_Span_L_s0 (fu : Nat) (l : List XSpan) (fk : Nat) (v4 : Bool) (v9 : Int) : api_Span_L fu l (fk + 1) v4 v9 = (bif decide (v9 < ((l.length : Nat) : Int)) then (bif decide (0 ≤ v9 ∧ v9 < ((l.length : Nat) : Int)) then (bif growth_sproutsAreDefined_1 (at_ zXSpan l v9) then api_Span_L fu l fk v4 (W (v9 + 1))
        else some false) else none)
      else some true) := rfl
noncomputable def api_Span (fu : Nat) (l : List XSpan) : Option Bool :=
  api_Span_L fu l fu false 0
theorem api_Span_L_fs (fu : Nat) (l : List XSpan) (q10 : Nat) : ∀ fk, (∀ (v4 : Bool) (v9 : Int) (r : Bool), api_Span_L fu l fk v4 v9 = some r → FSat P GG Tryd.f119 (.bool (r)) (ids (looses [(10, encL cXSpan l)])) 18 [.lp (cA (bodyOf Tryd.f119) [1, 0, 1, 0, 0]), .blk 0, .code (cA (bodyOf Tryd.f119) [1, 1])] (tOf 18 [(1, .func (.func 120) #[] #[]), (4, .bool (v4)), (7, .slice (some ⟨10, 0, none⟩) (l.length) (q10)), (8, I (((l.length : Nat) : Int))), (9, I (v9))]) (mOf 100 [(0, .rom [I (1), I (2), I (3)] .glob), (10, .rom (encL cXSpan l) .loose)])) := by
  intro fk
  induction fk with
  | zero => exact fun _ _ r hh => by cases hh
  | succ fk ih =>
    · intro v4 v9 r hh
      rcases Bool.eq_false_or_eq_true (decide (v9 < ((l.length : Nat) : Int))) with h1 | h1
      · skip
        rcases Bool.eq_false_or_eq_true (decide (0 ≤ v9 ∧ v9 < ((l.length : Nat) : Int))) with h2 | h2
        rotate_left
        · skip
          have e : api_Span_L fu l (fk + 1) v4 v9 = none := by rw [api_Span_L_s0]; rw [h1, cond_true, h2, cond_false]; first | done | rfl
          rw [e] at hh; cases hh
        · skip
          rcases Bool.eq_false_or_eq_true (growth_sproutsAreDefined_1 (at_ zXSpan l v9)) with h3 | h3
          · skip
            have e : api_Span_L fu l (fk + 1) v4 v9 = api_Span_L fu l fk v4 (W (v9 + 1)) := by rw [api_Span_L_s0]; rw [h1, cond_true, h2, cond_true, h3, cond_true]; first | done | rfl
            rw [e] at hh
            have nx := ih v4 (W (v9 + 1)) r hh
            refine FSat.stop pfT (fuel := 22) (hs := (hT :: hX :: (api_Span_i0 l v9) :: (hR 4 [(api_Span_i1 l v9), hE, hE, hE]))) (ss := [.go, .st [1, 4, 7, 8, 9] [0, 10]]) (R := [(decide (v9 < ((l.length : Nat) : Int))) = true, 0 ≤ v9 ∧ v9 < ((l.length : Nat) : Int), (api_Span_r2 l v9), (api_Span_r3 l v9), (growth_sproutsAreDefined_1 (at_ zXSpan l v9)) = true]) (by kernel_rfl) ⟨h1, of_decide_eq_true h2, RowLd.elem cXSpan_len _ (.inl ⟨_, rfl⟩) rfl rfl _ _ (of_decide_eq_true h2), growth_sproutsAreDefined_1_fc (at_ zXSpan l v9), h3, trivial⟩ 100 (by kernel_rfl) ?_ nx
            exact ⟨PinL.lit (by kernel_rfl), PinL.pf (encL_pf cXSpan_pf _), trivial⟩
          · skip
            have e : api_Span_L fu l (fk + 1) v4 v9 = some false := by rw [api_Span_L_s0]; rw [h1, cond_true, h2, cond_true, h3, cond_false]; first | done | rfl
            rw [e] at hh
            have hr := Option.some.inj hh
            rw [← hr]
            exact FSat.done pfT (fuel := 21) (hs := (hT :: hX :: (api_Span_i0 l v9) :: (hR 4 [(api_Span_i4 l v9), hE, hE]))) (ss := [.go]) (R := [(decide (v9 < ((l.length : Nat) : Int))) = true, 0 ≤ v9 ∧ v9 < ((l.length : Nat) : Int), (api_Span_r2 l v9), (api_Span_r3 l v9), (growth_sproutsAreDefined_1 (at_ zXSpan l v9)) = false]) (by kernel_rfl) ⟨h1, of_decide_eq_true h2, RowLd.elem cXSpan_len _ (.inl ⟨_, rfl⟩) rfl rfl _ _ (of_decide_eq_true h2), growth_sproutsAreDefined_1_fc (at_ zXSpan l v9), h3, trivial⟩ (by kernel_rfl)
      · skip
        have e : api_Span_L fu l (fk + 1) v4 v9 = some true := by rw [api_Span_L_s0]; rw [h1, cond_false]; first | done | rfl
        rw [e] at hh
        have hr := Option.some.inj hh
        rw [← hr]
        exact FSat.done pfT (fuel := 14) (hs := [hF, hE]) (ss := [.go]) (R := [(decide (v9 < ((l.length : Nat) : Int))) = false]) (by kernel_rfl) ⟨h1, trivial⟩ (by kernel_rfl)
theorem api_Span_fc (fu : Nat) (l : List XSpan) (q10 : Nat) (r : Bool) (hh : api_Span fu l = some r) : FC P GG 119 [.slice (some ⟨10, 0, none⟩) (l.length) (q10), .func (.func 120) #[] #[]] [(10, encL cXSpan l)] (.bool (r)) := by
  refine FC.of_fsat 18 100 Tryd.func119 (by kernel_rfl) (by kernel_rfl) (by kernel_rfl) ⟨PinL.pf (encL_pf cXSpan_pf _), trivial⟩ ?_
  have e : api_Span fu l = api_Span_L fu l fu false 0 := by unfold api_Span; rfl
  rw [e] at hh
  have nx := api_Span_L_fs fu l q10 fu false 0 r hh
  refine FSat.stop pfT (fuel := 13) (hs := (hR 4 [])) (ss := [.st [1, 4, 7, 8, 9] [0, 10]]) (R := []) (by kernel_rfl) trivial 100 (by kernel_rfl) ?_ nx
  exact ⟨PinL.lit (by kernel_rfl), PinL.pf (encL_pf cXSpan_pf _), trivial⟩

/- greenhew/growth.sproutsAreDefined -/
noncomputable abbrev growth_sproutsAreDefined_i0 (l : List XSpan) : Hint := (hB (hC (.bool (growth_within ((l.length : Nat) : Int) 1 60))) true)
noncomputable abbrev growth_sproutsAreDefined_i1 (l : List XSpan) (q10 : Nat) (x2 : Bool) : Hint := (hM (.bool (x2)) (.bool (x2)) (A_api_Span l q10) (K_api_Span l) [(10, 10, 0)])
abbrev growth_sproutsAreDefined_r2 (l : List XSpan) : Prop := FC P GG 94 (A_growth_within ((l.length : Nat) : Int) 1 60) [] (.bool (growth_within ((l.length : Nat) : Int) 1 60))
abbrev growth_sproutsAreDefined_r3 (l : List XSpan) (q10 : Nat) : Prop := VRs (Ren.emb [(10, 10, 0)]) (A_api_Span l q10) [.slice (some ⟨10, 0, none⟩) (l.length) (q10), .func (.func 120) #[] #[]]
abbrev growth_sproutsAreDefined_r4 (l : List XSpan) : Prop := MemAt (Ren.emb [(10, 10, 0)]) (encL cXSpan l) 0 (encL cXSpan l) ∧ True
theorem growth_sproutsAreDefined_p5 (l : List XSpan) (q10 : Nat) : (growth_sproutsAreDefined_r3 l q10) := (.cons _ _ _ _ (.slc 10 0 _ _ _ ⟨10, 0, 0, 0⟩ rfl (.inl rfl)) (.cons _ _ _ _ (.func _ _ _ _ _ (fun _ h => by cases h) .nil .nil) .nil))
noncomputable abbrev growth_sproutsAreDefined_i6 (l : List XSpan) : Hint := (hB (hC (.bool (growth_within ((l.length : Nat) : Int) 1 60))) false)
abbrev A_growth_sproutsAreDefined (l : List XSpan) (q10 : Nat) : List Value := [.slice (some ⟨10, 0, none⟩) (l.length) (q10)]
abbrev K_growth_sproutsAreDefined (l : List XSpan) : List (Nat × List Value) := [(10, encL cXSpan l)]
noncomputable def growth_sproutsAreDefined (fu : Nat) (l : List XSpan) : Option Bool :=
  bif growth_within ((l.length : Nat) : Int) 1 60 then (Option.bind (api_Span fu l) fun x2 =>
    some x2)
  else some false
theorem growth_sproutsAreDefined_fc (fu : Nat) (l : List XSpan) (q10 : Nat) (r : Bool) (hh : growth_sproutsAreDefined fu l = some r) : FC P GG 96 [.slice (some ⟨10, 0, none⟩) (l.length) (q10)] [(10, encL cXSpan l)] (.bool (r)) := by
  refine FC.of_fsat 10 100 Tryd.func96 (by kernel_rfl) (by kernel_rfl) (by kernel_rfl) ⟨PinL.pf (encL_pf cXSpan_pf _), trivial⟩ ?_
  rcases Bool.eq_false_or_eq_true (growth_within ((l.length : Nat) : Int) 1 60) with h1 | h1
  · skip
    cases h2 : api_Span fu l with
    | none =>
      have e : growth_sproutsAreDefined fu l = none := by unfold growth_sproutsAreDefined; rw [h1, cond_true, h2, Option.bind_none]; first | done | rfl
      rw [e] at hh; cases hh
    | some x2 =>
      have e : growth_sproutsAreDefined fu l = some x2 := by unfold growth_sproutsAreDefined; rw [h1, cond_true, h2, Option.bind_some]; first | done | rfl
      rw [e] at hh
      have hr := Option.some.inj hh
      rw [← hr]
      exact FSat.done pfT (fuel := 10) (hs := [hE, hE, hE, (growth_sproutsAreDefined_i0 l), hE, hE, (growth_sproutsAreDefined_i1 l q10 x2), hE, hE]) (ss := []) (R := [(growth_sproutsAreDefined_r2 l), (growth_within ((l.length : Nat) : Int) 1 60) = true, FC P GG 119 (A_api_Span l q10) (K_api_Span l) (.bool (x2)), (growth_sproutsAreDefined_r3 l q10), (growth_sproutsAreDefined_r4 l), VR (Ren.emb [(10, 10, 0)]) (.bool (x2)) (.bool (x2))]) (by kernel_rfl) ⟨growth_within_fc ((l.length : Nat) : Int) 1 60, h1, api_Span_fc fu l q10 x2 h2, growth_sproutsAreDefined_p5 l q10, ⟨MemAt.same _ (encL_pf cXSpan_pf _), trivial⟩, selfB_self 9 _ rfl _, trivial⟩ (by kernel_rfl)
  · skip
    have e : growth_sproutsAreDefined fu l = some false := by unfold growth_sproutsAreDefined; rw [h1, cond_false]; first | done | rfl
    rw [e] at hh
    have hr := Option.some.inj hh
    rw [← hr]
    exact FSat.done pfT (fuel := 10) (hs := [hE, hE, hE, (growth_sproutsAreDefined_i6 l), hE, hE, hE]) (ss := []) (R := [(growth_sproutsAreDefined_r2 l), (growth_within ((l.length : Nat) : Int) 1 60) = false]) (by kernel_rfl) ⟨growth_within_fc ((l.length : Nat) : Int) 1 60, h1, trivial⟩ (by kernel_rfl)

/- greenhew/growth.speciesIsDefined -/
noncomputable abbrev growth_speciesIsDefined_i0 (s : XSpecies) (q10 : Nat) (x1 : Bool) : Hint := (hB (hM (.bool (x1)) (.bool (x1)) (A_growth_yearsAreDefined s.Rise 5000 q10) (K_growth_yearsAreDefined s.Rise) [(10, 10, 0)]) true)
noncomputable abbrev growth_speciesIsDefined_i1 (s : XSpecies) (q11 : Nat) (x3 : Bool) : Hint := (hB (hM (.bool (x3)) (.bool (x3)) (A_growth_yearsAreDefined s.Thick 300 q11) (K_growth_yearsAreDefined s.Thick) [(10, 11, 0)]) true)
noncomputable abbrev growth_speciesIsDefined_i2 (s : XSpecies) (q12 : Nat) (x9 : Bool) : Hint := (hB (hM (.bool (x9)) (.bool (x9)) (A_growth_ladderIsDefined s.Ladder q12) (K_growth_ladderIsDefined s.Ladder) [(10, 12, 0)]) true)
noncomputable abbrev growth_speciesIsDefined_i3 (s : XSpecies) (q13 : Nat) (x11 : Bool) : Hint := (hM (.bool (x11)) (.bool (x11)) (A_growth_sproutsAreDefined s.Sprouts q13) (K_growth_sproutsAreDefined s.Sprouts) [(10, 13, 0)])
abbrev growth_speciesIsDefined_r4 (s : XSpecies) (q10 : Nat) (x1 : Bool) : Prop := FC P GG 93 (A_growth_yearsAreDefined s.Rise 5000 q10) (K_growth_yearsAreDefined s.Rise) (.bool (x1))
abbrev growth_speciesIsDefined_r5 (s : XSpecies) (q10 : Nat) : Prop := VRs (Ren.emb [(10, 10, 0)]) (A_growth_yearsAreDefined s.Rise 5000 q10) [.slice (some ⟨10, 0, none⟩) (s.Rise.length) (q10), I (5000)]
abbrev growth_speciesIsDefined_r6 (s : XSpecies) : Prop := MemAt (Ren.emb [(10, 10, 0)]) (encL cInt s.Rise) 0 (encL cInt s.Rise) ∧ True
abbrev growth_speciesIsDefined_r7 (s : XSpecies) (q11 : Nat) (x3 : Bool) : Prop := FC P GG 93 (A_growth_yearsAreDefined s.Thick 300 q11) (K_growth_yearsAreDefined s.Thick) (.bool (x3))
abbrev growth_speciesIsDefined_r8 (s : XSpecies) (q11 : Nat) : Prop := VRs (Ren.emb [(10, 11, 0)]) (A_growth_yearsAreDefined s.Thick 300 q11) [.slice (some ⟨11, 0, none⟩) (s.Thick.length) (q11), I (300)]
abbrev growth_speciesIsDefined_r9 (s : XSpecies) : Prop := MemAt (Ren.emb [(10, 11, 0)]) (encL cInt s.Thick) 0 (encL cInt s.Thick) ∧ True
abbrev growth_speciesIsDefined_r10 (s : XSpecies) : Prop := FC P GG 94 (A_growth_within s.Top 1 40000) [] (.bool (growth_within s.Top 1 40000))
abbrev growth_speciesIsDefined_r11 (s : XSpecies) : Prop := FC P GG 94 (A_growth_within s.Stout 1 3000) [] (.bool (growth_within s.Stout 1 3000))
abbrev growth_speciesIsDefined_r12 (s : XSpecies) : Prop := FC P GG 94 (A_growth_within s.Shade 0 99) [] (.bool (growth_within s.Shade 0 99))
abbrev growth_speciesIsDefined_r13 (s : XSpecies) : Prop := FC P GG 94 (A_growth_within s.Reach 0 40000) [] (.bool (growth_within s.Reach 0 40000))
abbrev growth_speciesIsDefined_r14 (s : XSpecies) (q12 : Nat) (x9 : Bool) : Prop := FC P GG 95 (A_growth_ladderIsDefined s.Ladder q12) (K_growth_ladderIsDefined s.Ladder) (.bool (x9))
abbrev growth_speciesIsDefined_r15 (s : XSpecies) (q12 : Nat) : Prop := VRs (Ren.emb [(10, 12, 0)]) (A_growth_ladderIsDefined s.Ladder q12) [.slice (some ⟨12, 0, none⟩) (s.Ladder.length) (q12)]
abbrev growth_speciesIsDefined_r16 (s : XSpecies) : Prop := MemAt (Ren.emb [(10, 12, 0)]) (encL cXRung s.Ladder) 0 (encL cXRung s.Ladder) ∧ True
abbrev growth_speciesIsDefined_r17 (s : XSpecies) (q13 : Nat) (x11 : Bool) : Prop := FC P GG 96 (A_growth_sproutsAreDefined s.Sprouts q13) (K_growth_sproutsAreDefined s.Sprouts) (.bool (x11))
abbrev growth_speciesIsDefined_r18 (s : XSpecies) (q13 : Nat) : Prop := VRs (Ren.emb [(10, 13, 0)]) (A_growth_sproutsAreDefined s.Sprouts q13) [.slice (some ⟨13, 0, none⟩) (s.Sprouts.length) (q13)]
abbrev growth_speciesIsDefined_r19 (s : XSpecies) : Prop := MemAt (Ren.emb [(10, 13, 0)]) (encL cXSpan s.Sprouts) 0 (encL cXSpan s.Sprouts) ∧ True
theorem growth_speciesIsDefined_p20 (s : XSpecies) (q10 : Nat) : (growth_speciesIsDefined_r5 s q10) := (.cons _ _ _ _ (.slc 10 0 _ _ _ ⟨10, 0, 0, 0⟩ rfl (.inl rfl)) (.cons _ _ _ _ (VR.of_pf rfl) .nil))
theorem growth_speciesIsDefined_p21 (s : XSpecies) (q11 : Nat) : (growth_speciesIsDefined_r8 s q11) := (.cons _ _ _ _ (.slc 10 0 _ _ _ ⟨11, 0, 0, 0⟩ rfl (.inl rfl)) (.cons _ _ _ _ (VR.of_pf rfl) .nil))
theorem growth_speciesIsDefined_p22 (s : XSpecies) (q12 : Nat) : (growth_speciesIsDefined_r15 s q12) := (.cons _ _ _ _ (.slc 10 0 _ _ _ ⟨12, 0, 0, 0⟩ rfl (.inl rfl)) .nil)
theorem growth_speciesIsDefined_p23 (s : XSpecies) (q13 : Nat) : (growth_speciesIsDefined_r18 s q13) := (.cons _ _ _ _ (.slc 10 0 _ _ _ ⟨13, 0, 0, 0⟩ rfl (.inl rfl)) .nil)
noncomputable abbrev growth_speciesIsDefined_i24 (s : XSpecies) (q12 : Nat) (x9 : Bool) : Hint := (hB (hM (.bool (x9)) (.bool (x9)) (A_growth_ladderIsDefined s.Ladder q12) (K_growth_ladderIsDefined s.Ladder) [(10, 12, 0)]) false)
noncomputable abbrev growth_speciesIsDefined_i25 (s : XSpecies) (q11 : Nat) (x3 : Bool) : Hint := (hB (hM (.bool (x3)) (.bool (x3)) (A_growth_yearsAreDefined s.Thick 300 q11) (K_growth_yearsAreDefined s.Thick) [(10, 11, 0)]) false)
noncomputable abbrev growth_speciesIsDefined_i26 (s : XSpecies) (q10 : Nat) (x1 : Bool) : Hint := (hB (hM (.bool (x1)) (.bool (x1)) (A_growth_yearsAreDefined s.Rise 5000 q10) (K_growth_yearsAreDefined s.Rise) [(10, 10, 0)]) false)
abbrev A_growth_speciesIsDefined (s : XSpecies) (q10 : Nat) (q11 : Nat) (q12 : Nat) (q13 : Nat) : List Value := [.agg #[.slice (some ⟨10, 0, none⟩) (s.Rise.length) (q10), .slice (some ⟨11, 0, none⟩) (s.Thick.length) (q11), I (s.Top), I (s.Stout), I (s.Shade), I (s.Reach), .slice (some ⟨12, 0, none⟩) (s.Ladder.length) (q12), .slice (some ⟨13, 0, none⟩) (s.Sprouts.length) (q13)]]
abbrev K_growth_speciesIsDefined (s : XSpecies) : List (Nat × List Value) := [(10, encL cInt s.Rise), (11, encL cInt s.Thick), (12, encL cXRung s.Ladder), (13, encL cXSpan s.Sprouts)]
noncomputable def growth_speciesIsDefined (fu : Nat) (s : XSpecies) : Option Bool :=
  Option.bind (growth_yearsAreDefined fu s.Rise 5000) fun x1 =>
  bif x1 then (Option.bind (growth_yearsAreDefined fu s.Thick 300) fun x3 =>
    bif x3 then (bif growth_within s.Top 1 40000 then (bif growth_within s.Stout 1 3000 then (bif growth_within s.Shade 0 99 then (bif growth_within s.Reach 0 40000 then (Option.bind (growth_ladderIsDefined fu s.Ladder) fun x9 =>
              bif x9 then (Option.bind (growth_sproutsAreDefined fu s.Sprouts) fun x11 =>
                some x11)
              else some false)
            else some false)
          else some false)
        else some false)
      else some false)
    else some false)
  else some false
theorem growth_speciesIsDefined_fc (fu : Nat) (s : XSpecies) (q10 q11 q12 q13 : Nat) (r : Bool) (hh : growth_speciesIsDefined fu s = some r) : FC P GG 57 [.agg #[.slice (some ⟨10, 0, none⟩) (s.Rise.length) (q10), .slice (some ⟨11, 0, none⟩) (s.Thick.length) (q11), I (s.Top), I (s.Stout), I (s.Shade), I (s.Reach), .slice (some ⟨12, 0, none⟩) (s.Ladder.length) (q12), .slice (some ⟨13, 0, none⟩) (s.Sprouts.length) (q13)]] [(10, encL cInt s.Rise), (11, encL cInt s.Thick), (12, encL cXRung s.Ladder), (13, encL cXSpan s.Sprouts)] (.bool (r)) := by
  refine FC.of_fsat 41 100 Tryd.func57 (by kernel_rfl) (by kernel_rfl) (by kernel_rfl) ⟨PinL.pf (encL_pf cInt_pf _), PinL.pf (encL_pf cInt_pf _), PinL.pf (encL_pf cXRung_pf _), PinL.pf (encL_pf cXSpan_pf _), trivial⟩ ?_
  cases h1 : growth_yearsAreDefined fu s.Rise 5000 with
  | none =>
    have e : growth_speciesIsDefined fu s = none := by unfold growth_speciesIsDefined; rw [h1, Option.bind_none]; first | done | rfl
    rw [e] at hh; cases hh
  | some x1 =>
    rcases Bool.eq_false_or_eq_true (x1) with h2 | h2
    · skip
      cases h3 : growth_yearsAreDefined fu s.Thick 300 with
      | none =>
        have e : growth_speciesIsDefined fu s = none := by unfold growth_speciesIsDefined; rw [h1, Option.bind_some, h2, cond_true, h3, Option.bind_none]; first | done | rfl
        rw [e] at hh; cases hh
      | some x3 =>
        rcases Bool.eq_false_or_eq_true (x3) with h4 | h4
        · skip
          rcases Bool.eq_false_or_eq_true (growth_within s.Top 1 40000) with h5 | h5
          · skip
            rcases Bool.eq_false_or_eq_true (growth_within s.Stout 1 3000) with h6 | h6
            · skip
              rcases Bool.eq_false_or_eq_true (growth_within s.Shade 0 99) with h7 | h7
              · skip
                rcases Bool.eq_false_or_eq_true (growth_within s.Reach 0 40000) with h8 | h8
                · skip
                  cases h9 : growth_ladderIsDefined fu s.Ladder with
                  | none =>
                    have e : growth_speciesIsDefined fu s = none := by unfold growth_speciesIsDefined; rw [h1, Option.bind_some, h2, cond_true, h3, Option.bind_some, h4, cond_true, h5, cond_true, h6, cond_true, h7, cond_true, h8, cond_true, h9, Option.bind_none]; first | done | rfl
                    rw [e] at hh; cases hh
                  | some x9 =>
                    rcases Bool.eq_false_or_eq_true (x9) with h10 | h10
                    · skip
                      cases h11 : growth_sproutsAreDefined fu s.Sprouts with
                      | none =>
                        have e : growth_speciesIsDefined fu s = none := by unfold growth_speciesIsDefined; rw [h1, Option.bind_some, h2, cond_true, h3, Option.bind_some, h4, cond_true, h5, cond_true, h6, cond_true, h7, cond_true, h8, cond_true, h9, Option.bind_some, h10, cond_true, h11, Option.bind_none]; first | done | rfl
                        rw [e] at hh; cases hh
                      | some x11 =>
                        have e : growth_speciesIsDefined fu s = some x11 := by unfold growth_speciesIsDefined; rw [h1, Option.bind_some, h2, cond_true, h3, Option.bind_some, h4, cond_true, h5, cond_true, h6, cond_true, h7, cond_true, h8, cond_true, h9, Option.bind_some, h10, cond_true, h11, Option.bind_some]; first | done | rfl
                        rw [e] at hh
                        have hr := Option.some.inj hh
                        rw [← hr]
                        exact FSat.done pfT (fuel := 10) (hs := (hR 4 ((growth_speciesIsDefined_i0 s q10 x1) :: hE :: hE :: hE :: (growth_speciesIsDefined_i1 s q11 x3) :: (hR 4 ((hB (hC (.bool (growth_within s.Top 1 40000))) true) :: (hR 4 ((hB (hC (.bool (growth_within s.Stout 1 3000))) true) :: (hR 4 ((hB (hC (.bool (growth_within s.Shade 0 99))) true) :: (hR 4 ((hB (hC (.bool (growth_within s.Reach 0 40000))) true) :: (hR 4 ((growth_speciesIsDefined_i2 s q12 x9) :: (hR 4 [(growth_speciesIsDefined_i3 s q13 x11), hE, hE])))))))))))))) (ss := []) (R := [(growth_speciesIsDefined_r4 s q10 x1), (growth_speciesIsDefined_r5 s q10), (growth_speciesIsDefined_r6 s), VR (Ren.emb [(10, 10, 0)]) (.bool (x1)) (.bool (x1)), (x1) = true, (growth_speciesIsDefined_r7 s q11 x3), (growth_speciesIsDefined_r8 s q11), (growth_speciesIsDefined_r9 s), VR (Ren.emb [(10, 11, 0)]) (.bool (x3)) (.bool (x3)), (x3) = true, (growth_speciesIsDefined_r10 s), (growth_within s.Top 1 40000) = true, (growth_speciesIsDefined_r11 s), (growth_within s.Stout 1 3000) = true, (growth_speciesIsDefined_r12 s), (growth_within s.Shade 0 99) = true, (growth_speciesIsDefined_r13 s), (growth_within s.Reach 0 40000) = true, (growth_speciesIsDefined_r14 s q12 x9), (growth_speciesIsDefined_r15 s q12), (growth_speciesIsDefined_r16 s), VR (Ren.emb [(10, 12, 0)]) (.bool (x9)) (.bool (x9)), (x9) = true, (growth_speciesIsDefined_r17 s q13 x11), (growth_speciesIsDefined_r18 s q13), (growth_speciesIsDefined_r19 s), VR (Ren.emb [(10, 13, 0)]) (.bool (x11)) (.bool (x11))]) (by kernel_rfl) ⟨growth_yearsAreDefined_fc fu s.Rise 5000 q10 x1 h1, growth_speciesIsDefined_p20 s q10, ⟨MemAt.same _ (encL_pf cInt_pf _), trivial⟩, selfB_self 9 _ rfl _, h2, growth_yearsAreDefined_fc fu s.Thick 300 q11 x3 h3, growth_speciesIsDefined_p21 s q11, ⟨MemAt.same _ (encL_pf cInt_pf _), trivial⟩, selfB_self 9 _ rfl _, h4, growth_within_fc s.Top 1 40000, h5, growth_within_fc s.Stout 1 3000, h6, growth_within_fc s.Shade 0 99, h7, growth_within_fc s.Reach 0 40000, h8, growth_ladderIsDefined_fc fu s.Ladder q12 x9 h9, growth_speciesIsDefined_p22 s q12, ⟨MemAt.same _ (encL_pf cXRung_pf _), trivial⟩, selfB_self 9 _ rfl _, h10, growth_sproutsAreDefined_fc fu s.Sprouts q13 x11 h11, growth_speciesIsDefined_p23 s q13, ⟨MemAt.same _ (encL_pf cXSpan_pf _), trivial⟩, selfB_self 9 _ rfl _, trivial⟩ (by kernel_rfl)
                    · skip
                      have e : growth_speciesIsDefined fu s = some false := by unfold growth_speciesIsDefined; rw [h1, Option.bind_some, h2, cond_true, h3, Option.bind_some, h4, cond_true, h5, cond_true, h6, cond_true, h7, cond_true, h8, cond_true, h9, Option.bind_some, h10, cond_false]; first | done | rfl
                      rw [e] at hh
                      have hr := Option.some.inj hh
                      rw [← hr]
                      exact FSat.done pfT (fuel := 10) (hs := (hR 4 ((growth_speciesIsDefined_i0 s q10 x1) :: hE :: hE :: hE :: (growth_speciesIsDefined_i1 s q11 x3) :: (hR 4 ((hB (hC (.bool (growth_within s.Top 1 40000))) true) :: (hR 4 ((hB (hC (.bool (growth_within s.Stout 1 3000))) true) :: (hR 4 ((hB (hC (.bool (growth_within s.Shade 0 99))) true) :: (hR 4 ((hB (hC (.bool (growth_within s.Reach 0 40000))) true) :: (hR 4 ((growth_speciesIsDefined_i24 s q12 x9) :: (hR 4 [])))))))))))))) (ss := []) (R := [(growth_speciesIsDefined_r4 s q10 x1), (growth_speciesIsDefined_r5 s q10), (growth_speciesIsDefined_r6 s), VR (Ren.emb [(10, 10, 0)]) (.bool (x1)) (.bool (x1)), (x1) = true, (growth_speciesIsDefined_r7 s q11 x3), (growth_speciesIsDefined_r8 s q11), (growth_speciesIsDefined_r9 s), VR (Ren.emb [(10, 11, 0)]) (.bool (x3)) (.bool (x3)), (x3) = true, (growth_speciesIsDefined_r10 s), (growth_within s.Top 1 40000) = true, (growth_speciesIsDefined_r11 s), (growth_within s.Stout 1 3000) = true, (growth_speciesIsDefined_r12 s), (growth_within s.Shade 0 99) = true, (growth_speciesIsDefined_r13 s), (growth_within s.Reach 0 40000) = true, (growth_speciesIsDefined_r14 s q12 x9), (growth_speciesIsDefined_r15 s q12), (growth_speciesIsDefined_r16 s), VR (Ren.emb [(10, 12, 0)]) (.bool (x9)) (.bool (x9)), (x9) = false]) (by kernel_rfl) ⟨growth_yearsAreDefined_fc fu s.Rise 5000 q10 x1 h1, growth_speciesIsDefined_p20 s q10, ⟨MemAt.same _ (encL_pf cInt_pf _), trivial⟩, selfB_self 9 _ rfl _, h2, growth_yearsAreDefined_fc fu s.Thick 300 q11 x3 h3, growth_speciesIsDefined_p21 s q11, ⟨MemAt.same _ (encL_pf cInt_pf _), trivial⟩, selfB_self 9 _ rfl _, h4, growth_within_fc s.Top 1 40000, h5, growth_within_fc s.Stout 1 3000, h6, growth_within_fc s.Shade 0 99, h7, growth_within_fc s.Reach 0 40000, h8, growth_ladderIsDefined_fc fu s.Ladder q12 x9 h9, growth_speciesIsDefined_p22 s q12, ⟨MemAt.same _ (encL_pf cXRung_pf _), trivial⟩, selfB_self 9 _ rfl _, h10, trivial⟩ (by kernel_rfl)
                · skip
                  have e : growth_speciesIsDefined fu s = some false := by unfold growth_speciesIsDefined; rw [h1, Option.bind_some, h2, cond_true, h3, Option.bind_some, h4, cond_true, h5, cond_true, h6, cond_true, h7, cond_true, h8, cond_false]; first | done | rfl
                  rw [e] at hh
                  have hr := Option.some.inj hh
                  rw [← hr]
                  exact FSat.done pfT (fuel := 10) (hs := (hR 4 ((growth_speciesIsDefined_i0 s q10 x1) :: hE :: hE :: hE :: (growth_speciesIsDefined_i1 s q11 x3) :: (hR 4 ((hB (hC (.bool (growth_within s.Top 1 40000))) true) :: (hR 4 ((hB (hC (.bool (growth_within s.Stout 1 3000))) true) :: (hR 4 ((hB (hC (.bool (growth_within s.Shade 0 99))) true) :: (hR 4 ((hB (hC (.bool (growth_within s.Reach 0 40000))) false) :: (hR 6 [])))))))))))) (ss := []) (R := [(growth_speciesIsDefined_r4 s q10 x1), (growth_speciesIsDefined_r5 s q10), (growth_speciesIsDefined_r6 s), VR (Ren.emb [(10, 10, 0)]) (.bool (x1)) (.bool (x1)), (x1) = true, (growth_speciesIsDefined_r7 s q11 x3), (growth_speciesIsDefined_r8 s q11), (growth_speciesIsDefined_r9 s), VR (Ren.emb [(10, 11, 0)]) (.bool (x3)) (.bool (x3)), (x3) = true, (growth_speciesIsDefined_r10 s), (growth_within s.Top 1 40000) = true, (growth_speciesIsDefined_r11 s), (growth_within s.Stout 1 3000) = true, (growth_speciesIsDefined_r12 s), (growth_within s.Shade 0 99) = true, (growth_speciesIsDefined_r13 s), (growth_within s.Reach 0 40000) = false]) (by kernel_rfl) ⟨growth_yearsAreDefined_fc fu s.Rise 5000 q10 x1 h1, growth_speciesIsDefined_p20 s q10, ⟨MemAt.same _ (encL_pf cInt_pf _), trivial⟩, selfB_self 9 _ rfl _, h2, growth_yearsAreDefined_fc fu s.Thick 300 q11 x3 h3, growth_speciesIsDefined_p21 s q11, ⟨MemAt.same _ (encL_pf cInt_pf _), trivial⟩, selfB_self 9 _ rfl _, h4, growth_within_fc s.Top 1 40000, h5, growth_within_fc s.Stout 1 3000, h6, growth_within_fc s.Shade 0 99, h7, growth_within_fc s.Reach 0 40000, h8, trivial⟩ (by kernel_rfl)
              · skip
                have e : growth_speciesIsDefined fu s = some false := by unfold growth_speciesIsDefined; rw [h1, Option.bind_some, h2, cond_true, h3, Option.bind_some, h4, cond_true, h5, cond_true, h6, cond_true, h7, cond_false]; first | done | rfl
                rw [e] at hh
                have hr := Option.some.inj hh
                rw [← hr]
                exact FSat.done pfT (fuel := 10) (hs := (hR 4 ((growth_speciesIsDefined_i0 s q10 x1) :: hE :: hE :: hE :: (growth_speciesIsDefined_i1 s q11 x3) :: (hR 4 ((hB (hC (.bool (growth_within s.Top 1 40000))) true) :: (hR 4 ((hB (hC (.bool (growth_within s.Stout 1 3000))) true) :: (hR 4 ((hB (hC (.bool (growth_within s.Shade 0 99))) false) :: (hR 8 [])))))))))) (ss := []) (R := [(growth_speciesIsDefined_r4 s q10 x1), (growth_speciesIsDefined_r5 s q10), (growth_speciesIsDefined_r6 s), VR (Ren.emb [(10, 10, 0)]) (.bool (x1)) (.bool (x1)), (x1) = true, (growth_speciesIsDefined_r7 s q11 x3), (growth_speciesIsDefined_r8 s q11), (growth_speciesIsDefined_r9 s), VR (Ren.emb [(10, 11, 0)]) (.bool (x3)) (.bool (x3)), (x3) = true, (growth_speciesIsDefined_r10 s), (growth_within s.Top 1 40000) = true, (growth_speciesIsDefined_r11 s), (growth_within s.Stout 1 3000) = true, (growth_speciesIsDefined_r12 s), (growth_within s.Shade 0 99) = false]) (by kernel_rfl) ⟨growth_yearsAreDefined_fc fu s.Rise 5000 q10 x1 h1, growth_speciesIsDefined_p20 s q10, ⟨MemAt.same _ (encL_pf cInt_pf _), trivial⟩, selfB_self 9 _ rfl _, h2, growth_yearsAreDefined_fc fu s.Thick 300 q11 x3 h3, growth_speciesIsDefined_p21 s q11, ⟨MemAt.same _ (encL_pf cInt_pf _), trivial⟩, selfB_self 9 _ rfl _, h4, growth_within_fc s.Top 1 40000, h5, growth_within_fc s.Stout 1 3000, h6, growth_within_fc s.Shade 0 99, h7, trivial⟩ (by kernel_rfl)
            · skip
              have e : growth_speciesIsDefined fu s = some false := by unfold growth_speciesIsDefined; rw [h1, Option.bind_some, h2, cond_true, h3, Option.bind_some, h4, cond_true, h5, cond_true, h6, cond_false]; first | done | rfl
              rw [e] at hh
              have hr := Option.some.inj hh
              rw [← hr]
              exact FSat.done pfT (fuel := 10) (hs := (hR 4 ((growth_speciesIsDefined_i0 s q10 x1) :: hE :: hE :: hE :: (growth_speciesIsDefined_i1 s q11 x3) :: (hR 4 ((hB (hC (.bool (growth_within s.Top 1 40000))) true) :: (hR 4 ((hB (hC (.bool (growth_within s.Stout 1 3000))) false) :: (hR 10 [])))))))) (ss := []) (R := [(growth_speciesIsDefined_r4 s q10 x1), (growth_speciesIsDefined_r5 s q10), (growth_speciesIsDefined_r6 s), VR (Ren.emb [(10, 10, 0)]) (.bool (x1)) (.bool (x1)), (x1) = true, (growth_speciesIsDefined_r7 s q11 x3), (growth_speciesIsDefined_r8 s q11), (growth_speciesIsDefined_r9 s), VR (Ren.emb [(10, 11, 0)]) (.bool (x3)) (.bool (x3)), (x3) = true, (growth_speciesIsDefined_r10 s), (growth_within s.Top 1 40000) = true, (growth_speciesIsDefined_r11 s), (growth_within s.Stout 1 3000) = false]) (by kernel_rfl) ⟨growth_yearsAreDefined_fc fu s.Rise 5000 q10 x1 h1, growth_speciesIsDefined_p20 s q10, ⟨MemAt.same _ (encL_pf cInt_pf _), trivial⟩, selfB_self 9 _ rfl _, h2, growth_yearsAreDefined_fc fu s.Thick 300 q11 x3 h3, growth_speciesIsDefined_p21 s q11, ⟨MemAt.same _ (encL_pf cInt_pf _), trivial⟩, selfB_self 9 _ rfl _, h4, growth_within_fc s.Top 1 40000, h5, growth_within_fc s.Stout 1 3000, h6, trivial⟩ (by kernel_rfl)
          · skip
            have e : growth_speciesIsDefined fu s = some false := by unfold growth_speciesIsDefined; rw [h1, Option.bind_some, h2, cond_true, h3, Option.bind_some, h4, cond_true, h5, cond_false]; first | done | rfl
            rw [e] at hh
            have hr := Option.some.inj hh
            rw [← hr]
            exact FSat.done pfT (fuel := 10) (hs := (hR 4 ((growth_speciesIsDefined_i0 s q10 x1) :: hE :: hE :: hE :: (growth_speciesIsDefined_i1 s q11 x3) :: (hR 4 ((hB (hC (.bool (growth_within s.Top 1 40000))) false) :: (hR 12 [])))))) (ss := []) (R := [(growth_speciesIsDefined_r4 s q10 x1), (growth_speciesIsDefined_r5 s q10), (growth_speciesIsDefined_r6 s), VR (Ren.emb [(10, 10, 0)]) (.bool (x1)) (.bool (x1)), (x1) = true, (growth_speciesIsDefined_r7 s q11 x3), (growth_speciesIsDefined_r8 s q11), (growth_speciesIsDefined_r9 s), VR (Ren.emb [(10, 11, 0)]) (.bool (x3)) (.bool (x3)), (x3) = true, (growth_speciesIsDefined_r10 s), (growth_within s.Top 1 40000) = false]) (by kernel_rfl) ⟨growth_yearsAreDefined_fc fu s.Rise 5000 q10 x1 h1, growth_speciesIsDefined_p20 s q10, ⟨MemAt.same _ (encL_pf cInt_pf _), trivial⟩, selfB_self 9 _ rfl _, h2, growth_yearsAreDefined_fc fu s.Thick 300 q11 x3 h3, growth_speciesIsDefined_p21 s q11, ⟨MemAt.same _ (encL_pf cInt_pf _), trivial⟩, selfB_self 9 _ rfl _, h4, growth_within_fc s.Top 1 40000, h5, trivial⟩ (by kernel_rfl)
        · skip
          have e : growth_speciesIsDefined fu s = some false := by unfold growth_speciesIsDefined; rw [h1, Option.bind_some, h2, cond_true, h3, Option.bind_some, h4, cond_false]; first | done | rfl
          rw [e] at hh
          have hr := Option.some.inj hh
          rw [← hr]
          exact FSat.done pfT (fuel := 10) (hs := (hR 4 ((growth_speciesIsDefined_i0 s q10 x1) :: hE :: hE :: hE :: (growth_speciesIsDefined_i25 s q11 x3) :: (hR 14 [])))) (ss := []) (R := [(growth_speciesIsDefined_r4 s q10 x1), (growth_speciesIsDefined_r5 s q10), (growth_speciesIsDefined_r6 s), VR (Ren.emb [(10, 10, 0)]) (.bool (x1)) (.bool (x1)), (x1) = true, (growth_speciesIsDefined_r7 s q11 x3), (growth_speciesIsDefined_r8 s q11), (growth_speciesIsDefined_r9 s), VR (Ren.emb [(10, 11, 0)]) (.bool (x3)) (.bool (x3)), (x3) = false]) (by kernel_rfl) ⟨growth_yearsAreDefined_fc fu s.Rise 5000 q10 x1 h1, growth_speciesIsDefined_p20 s q10, ⟨MemAt.same _ (encL_pf cInt_pf _), trivial⟩, selfB_self 9 _ rfl _, h2, growth_yearsAreDefined_fc fu s.Thick 300 q11 x3 h3, growth_speciesIsDefined_p21 s q11, ⟨MemAt.same _ (encL_pf cInt_pf _), trivial⟩, selfB_self 9 _ rfl _, h4, trivial⟩ (by kernel_rfl)
    · skip
      have e : growth_speciesIsDefined fu s = some false := by unfold growth_speciesIsDefined; rw [h1, Option.bind_some, h2, cond_false]; first | done | rfl
      rw [e] at hh
      have hr := Option.some.inj hh
      rw [← hr]
      exact FSat.done pfT (fuel := 10) (hs := (hR 4 ((growth_speciesIsDefined_i26 s q10 x1) :: (hR 15 [])))) (ss := []) (R := [(growth_speciesIsDefined_r4 s q10 x1), (growth_speciesIsDefined_r5 s q10), (growth_speciesIsDefined_r6 s), VR (Ren.emb [(10, 10, 0)]) (.bool (x1)) (.bool (x1)), (x1) = false]) (by kernel_rfl) ⟨growth_yearsAreDefined_fc fu s.Rise 5000 q10 x1 h1, growth_speciesIsDefined_p20 s q10, ⟨MemAt.same _ (encL_pf cInt_pf _), trivial⟩, selfB_self 9 _ rfl _, h2, trivial⟩ (by kernel_rfl)

/- greenhew/growth.standIsDefined -/
abbrev growth_standIsDefined_r0 (x_0 : XStand) : Prop := FC P GG 94 (A_growth_within x_0.Age 0 100000) [] (.bool (growth_within x_0.Age 0 100000))
abbrev growth_standIsDefined_r1 (x_0 : XStand) : Prop := FC P GG 94 (A_growth_within x_0.Shoots 0 300) [] (.bool (growth_within x_0.Shoots 0 300))
abbrev growth_standIsDefined_r2 (x_0 : XStand) : Prop := FC P GG 94 (A_growth_within x_0.Height 0 40000) [] (.bool (growth_within x_0.Height 0 40000))
abbrev growth_standIsDefined_r3 (x_0 : XStand) : Prop := FC P GG 94 (A_growth_within x_0.Girth 0 3000) [] (.bool (growth_within x_0.Girth 0 3000))
abbrev A_growth_standIsDefined (x_0 : XStand) : List Value := [.agg #[I (x_0.Age), I (x_0.Shoots), I (x_0.Height), I (x_0.Girth)]]
noncomputable def growth_standIsDefined (x_0 : XStand) : Bool :=
  bif growth_within x_0.Age 0 100000 then (bif growth_within x_0.Shoots 0 300 then (bif growth_within x_0.Height 0 40000 then growth_within x_0.Girth 0 3000
      else false)
    else false)
  else false
theorem growth_standIsDefined_fc (x_0 : XStand) : FC P GG 58 [.agg #[I (x_0.Age), I (x_0.Shoots), I (x_0.Height), I (x_0.Girth)]] [] (.bool (growth_standIsDefined x_0)) := by
  refine FC.of_fsat 21 100 Tryd.func58 (by kernel_rfl) (by kernel_rfl) (by kernel_rfl) trivial ?_
  rcases Bool.eq_false_or_eq_true (growth_within x_0.Age 0 100000) with h1 | h1
  · skip
    rcases Bool.eq_false_or_eq_true (growth_within x_0.Shoots 0 300) with h2 | h2
    · skip
      rcases Bool.eq_false_or_eq_true (growth_within x_0.Height 0 40000) with h3 | h3
      · skip
        have e : growth_standIsDefined x_0 = growth_within x_0.Girth 0 3000 := by unfold growth_standIsDefined; rw [h1, cond_true, h2, cond_true, h3, cond_true]; first | done | rfl
        rw [e]
        exact FSat.done pfT (fuel := 10) (hs := (hR 4 ((hB (hC (.bool (growth_within x_0.Age 0 100000))) true) :: hE :: hE :: hE :: (hB (hC (.bool (growth_within x_0.Shoots 0 300))) true) :: (hR 4 ((hB (hC (.bool (growth_within x_0.Height 0 40000))) true) :: (hR 4 [(hC (.bool (growth_within x_0.Girth 0 3000))), hE, hE])))))) (ss := []) (R := [(growth_standIsDefined_r0 x_0), (growth_within x_0.Age 0 100000) = true, (growth_standIsDefined_r1 x_0), (growth_within x_0.Shoots 0 300) = true, (growth_standIsDefined_r2 x_0), (growth_within x_0.Height 0 40000) = true, (growth_standIsDefined_r3 x_0)]) (by kernel_rfl) ⟨growth_within_fc x_0.Age 0 100000, h1, growth_within_fc x_0.Shoots 0 300, h2, growth_within_fc x_0.Height 0 40000, h3, growth_within_fc x_0.Girth 0 3000, trivial⟩ (by kernel_rfl)
      · skip
        have e : growth_standIsDefined x_0 = false := by unfold growth_standIsDefined; rw [h1, cond_true, h2, cond_true, h3, cond_false]; first | done | rfl
        rw [e]
        exact FSat.done pfT (fuel := 10) (hs := (hR 4 ((hB (hC (.bool (growth_within x_0.Age 0 100000))) true) :: hE :: hE :: hE :: (hB (hC (.bool (growth_within x_0.Shoots 0 300))) true) :: (hR 4 ((hB (hC (.bool (growth_within x_0.Height 0 40000))) false) :: (hR 4 [])))))) (ss := []) (R := [(growth_standIsDefined_r0 x_0), (growth_within x_0.Age 0 100000) = true, (growth_standIsDefined_r1 x_0), (growth_within x_0.Shoots 0 300) = true, (growth_standIsDefined_r2 x_0), (growth_within x_0.Height 0 40000) = false]) (by kernel_rfl) ⟨growth_within_fc x_0.Age 0 100000, h1, growth_within_fc x_0.Shoots 0 300, h2, growth_within_fc x_0.Height 0 40000, h3, trivial⟩ (by kernel_rfl)
    · skip
      have e : growth_standIsDefined x_0 = false := by unfold growth_standIsDefined; rw [h1, cond_true, h2, cond_false]; first | done | rfl
      rw [e]
      exact FSat.done pfT (fuel := 10) (hs := (hR 4 ((hB (hC (.bool (growth_within x_0.Age 0 100000))) true) :: hE :: hE :: hE :: (hB (hC (.bool (growth_within x_0.Shoots 0 300))) false) :: (hR 6 [])))) (ss := []) (R := [(growth_standIsDefined_r0 x_0), (growth_within x_0.Age 0 100000) = true, (growth_standIsDefined_r1 x_0), (growth_within x_0.Shoots 0 300) = false]) (by kernel_rfl) ⟨growth_within_fc x_0.Age 0 100000, h1, growth_within_fc x_0.Shoots 0 300, h2, trivial⟩ (by kernel_rfl)
  · skip
    have e : growth_standIsDefined x_0 = false := by unfold growth_standIsDefined; rw [h1, cond_false]; first | done | rfl
    rw [e]
    exact FSat.done pfT (fuel := 10) (hs := (hR 4 ((hB (hC (.bool (growth_within x_0.Age 0 100000))) false) :: (hR 7 [])))) (ss := []) (R := [(growth_standIsDefined_r0 x_0), (growth_within x_0.Age 0 100000) = false]) (by kernel_rfl) ⟨growth_within_fc x_0.Age 0 100000, h1, trivial⟩ (by kernel_rfl)

/- greenhew/growth.weatherIsDefined -/
abbrev growth_weatherIsDefined_r0 (w : XWeather) : Prop := FC P GG 94 (A_growth_within w.Light 0 100) [] (.bool (growth_within w.Light 0 100))
abbrev growth_weatherIsDefined_r1 (w : XWeather) : Prop := FC P GG 94 (A_growth_within w.Browse 0 100) [] (.bool (growth_within w.Browse 0 100))
abbrev growth_weatherIsDefined_r2 (w : XWeather) : Prop := FC P GG 94 (A_growth_within w.Mild 0 200) [] (.bool (growth_within w.Mild 0 200))
abbrev A_growth_weatherIsDefined (w : XWeather) : List Value := [.agg #[I (w.Light), I (w.Browse), I (w.Mild)]]
noncomputable def growth_weatherIsDefined (w : XWeather) : Bool :=
  bif growth_within w.Light 0 100 then (bif growth_within w.Browse 0 100 then growth_within w.Mild 0 200
    else false)
  else false
theorem growth_weatherIsDefined_fc (w : XWeather) : FC P GG 59 [.agg #[I (w.Light), I (w.Browse), I (w.Mild)]] [] (.bool (growth_weatherIsDefined w)) := by
  refine FC.of_fsat 16 100 Tryd.func59 (by kernel_rfl) (by kernel_rfl) (by kernel_rfl) trivial ?_
  rcases Bool.eq_false_or_eq_true (growth_within w.Light 0 100) with h1 | h1
  · skip
    rcases Bool.eq_false_or_eq_true (growth_within w.Browse 0 100) with h2 | h2
    · skip
      have e : growth_weatherIsDefined w = growth_within w.Mild 0 200 := by unfold growth_weatherIsDefined; rw [h1, cond_true, h2, cond_true]; first | done | rfl
      rw [e]
      exact FSat.done pfT (fuel := 10) (hs := (hR 4 ((hB (hC (.bool (growth_within w.Light 0 100))) true) :: hE :: hE :: hE :: (hB (hC (.bool (growth_within w.Browse 0 100))) true) :: (hR 4 [(hC (.bool (growth_within w.Mild 0 200))), hE, hE])))) (ss := []) (R := [(growth_weatherIsDefined_r0 w), (growth_within w.Light 0 100) = true, (growth_weatherIsDefined_r1 w), (growth_within w.Browse 0 100) = true, (growth_weatherIsDefined_r2 w)]) (by kernel_rfl) ⟨growth_within_fc w.Light 0 100, h1, growth_within_fc w.Browse 0 100, h2, growth_within_fc w.Mild 0 200, trivial⟩ (by kernel_rfl)
    · skip
      have e : growth_weatherIsDefined w = false := by unfold growth_weatherIsDefined; rw [h1, cond_true, h2, cond_false]; first | done | rfl
      rw [e]
      exact FSat.done pfT (fuel := 10) (hs := (hR 4 ((hB (hC (.bool (growth_within w.Light 0 100))) true) :: hE :: hE :: hE :: (hB (hC (.bool (growth_within w.Browse 0 100))) false) :: (hR 4 [])))) (ss := []) (R := [(growth_weatherIsDefined_r0 w), (growth_within w.Light 0 100) = true, (growth_weatherIsDefined_r1 w), (growth_within w.Browse 0 100) = false]) (by kernel_rfl) ⟨growth_within_fc w.Light 0 100, h1, growth_within_fc w.Browse 0 100, h2, trivial⟩ (by kernel_rfl)
  · skip
    have e : growth_weatherIsDefined w = false := by unfold growth_weatherIsDefined; rw [h1, cond_false]; first | done | rfl
    rw [e]
    exact FSat.done pfT (fuel := 10) (hs := (hR 4 ((hB (hC (.bool (growth_within w.Light 0 100))) false) :: (hR 5 [])))) (ss := []) (R := [(growth_weatherIsDefined_r0 w), (growth_within w.Light 0 100) = false]) (by kernel_rfl) ⟨growth_within_fc w.Light 0 100, h1, trivial⟩ (by kernel_rfl)

structure Xgrower where
  Species : XSpecies

def zXgrower : Xgrower := ⟨zXSpecies⟩

/- greenhew/growth.number -/
abbrev A_growth_number (k : Int) : List Value := [.pointer (some ⟨10, 0, none⟩), I (k)]
abbrev K_growth_number (x_0 : XStand) : List (Nat × List Value) := [(10, [I (x_0.Age), I (x_0.Shoots), I (x_0.Height), I (x_0.Girth)])]
theorem growth_number_fc_1 (x_0 : XStand) (k : Int) (h1 : (k == 1) = true) : FC P GG 100 [.pointer (some ⟨10, 0, none⟩), I (k)] [(10, [I (x_0.Age), I (x_0.Shoots), I (x_0.Height), I (x_0.Girth)])] (.pointer (some ⟨10, 1, none⟩)) := by
  refine FC.of_fsat 19 100 Tryd.func100 (by kernel_rfl) (by kernel_rfl) (by kernel_rfl) ⟨PinL.lit (by kernel_rfl), trivial⟩ ?_
  exact FSat.done pfT (fuel := 16) (hs := (hE :: hE :: hT :: (hR 5 []))) (ss := []) (R := [(k == 1) = true]) (by kernel_rfl) ⟨h1, trivial⟩ (by kernel_rfl)
theorem growth_number_fc_2 (x_0 : XStand) (k : Int) (h1 : (k == 1) = false) (h2 : (k == 2) = true) : FC P GG 100 [.pointer (some ⟨10, 0, none⟩), I (k)] [(10, [I (x_0.Age), I (x_0.Shoots), I (x_0.Height), I (x_0.Girth)])] (.pointer (some ⟨10, 2, none⟩)) := by
  refine FC.of_fsat 19 100 Tryd.func100 (by kernel_rfl) (by kernel_rfl) (by kernel_rfl) ⟨PinL.lit (by kernel_rfl), trivial⟩ ?_
  exact FSat.done pfT (fuel := 19) (hs := (hE :: hE :: hF :: hE :: hT :: (hR 5 []))) (ss := []) (R := [(k == 1) = false, (k == 2) = true]) (by kernel_rfl) ⟨h1, h2, trivial⟩ (by kernel_rfl)
theorem growth_number_fc_3 (x_0 : XStand) (k : Int) (h1 : (k == 1) = false) (h2 : (k == 2) = false) : FC P GG 100 [.pointer (some ⟨10, 0, none⟩), I (k)] [(10, [I (x_0.Age), I (x_0.Shoots), I (x_0.Height), I (x_0.Girth)])] (.pointer (some ⟨10, 3, none⟩)) := by
  refine FC.of_fsat 19 100 Tryd.func100 (by kernel_rfl) (by kernel_rfl) (by kernel_rfl) ⟨PinL.lit (by kernel_rfl), trivial⟩ ?_
  exact FSat.done pfT (fuel := 19) (hs := (hE :: hE :: hF :: hE :: hF :: (hR 5 []))) (ss := []) (R := [(k == 1) = false, (k == 2) = false]) (by kernel_rfl) ⟨h1, h2, trivial⟩ (by kernel_rfl)

/- greenhew/growth.atAge[int] -/
noncomputable abbrev growth_atAge_i0 (table : List Int) (age : Int) : Hint := (hL (I ((at_ 0 table (imin age (W (((table.length : Nat) : Int) - 1)))))))
abbrev growth_atAge_r1 (table : List Int) (age : Int) : Prop := 0 ≤ (imin age (W (((table.length : Nat) : Int) - 1))) ∧ (imin age (W (((table.length : Nat) : Int) - 1))) < ((table.length : Nat) : Int)
abbrev growth_atAge_r2 (table : List Int) (age : Int) : Prop := RowLd P 3 (encL cInt table) (0 + (imin age (W (((table.length : Nat) : Int) - 1))).toNat * 1) (I ((at_ 0 table (imin age (W (((table.length : Nat) : Int) - 1))))))
abbrev A_growth_atAge (table : List Int) (age : Int) (q10 : Nat) : List Value := [.slice (some ⟨10, 0, none⟩) (table.length) (q10), I (age)]
abbrev K_growth_atAge (table : List Int) : List (Nat × List Value) := [(10, encL cInt table)]
noncomputable def growth_atAge (table : List Int) (age : Int) : Option Int :=
  bif decide (0 ≤ (imin age (W (((table.length : Nat) : Int) - 1))) ∧ (imin age (W (((table.length : Nat) : Int) - 1))) < ((table.length : Nat) : Int)) then some (at_ 0 table (imin age (W (((table.length : Nat) : Int) - 1)))) else none
theorem growth_atAge_fc (table : List Int) (age : Int) (q10 : Nat) (r : Int) (hh : growth_atAge table age = some r) : FC P GG 122 [.slice (some ⟨10, 0, none⟩) (table.length) (q10), I (age)] [(10, encL cInt table)] (I (r)) := by
  refine FC.of_fsat 13 100 Tryd.func122 (by kernel_rfl) (by kernel_rfl) (by kernel_rfl) ⟨PinL.pf (encL_pf cInt_pf _), trivial⟩ ?_
  rcases Bool.eq_false_or_eq_true (decide (0 ≤ (imin age (W (((table.length : Nat) : Int) - 1))) ∧ (imin age (W (((table.length : Nat) : Int) - 1))) < ((table.length : Nat) : Int))) with h1 | h1
  rotate_left
  · skip
    have e : growth_atAge table age = none := by unfold growth_atAge; rw [h1, cond_false]; first | done | rfl
    rw [e] at hh; cases hh
  · skip
    have e : growth_atAge table age = some (at_ 0 table (imin age (W (((table.length : Nat) : Int) - 1)))) := by unfold growth_atAge; rw [h1, cond_true]; first | done | rfl
    rw [e] at hh
    have hr := Option.some.inj hh
    rw [← hr]
    exact FSat.done pfT (fuel := 10) (hs := (hR 7 [hX, (growth_atAge_i0 table age), hE])) (ss := []) (R := [(growth_atAge_r1 table age), (growth_atAge_r2 table age)]) (by kernel_rfl) ⟨of_decide_eq_true h1, RowLd.part cInt_len _ rfl rfl _ _ (of_decide_eq_true h1) 0 _ rfl (by decide), trivial⟩ (by kernel_rfl)

/- (greenhew/growth.grower).inWeather -/
abbrev A_growth_grower_inWeather (usual : Int) (w : XWeather) : List Value := [.pointer (some ⟨10, 0, none⟩), I (usual), .agg #[I (w.Light), I (w.Browse), I (w.Mild)]]
abbrev K_growth_grower_inWeather (g : Xgrower) (q11 : Nat) (q12 : Nat) (q13 : Nat) (q14 : Nat) : List (Nat × List Value) := [(11, encL cInt g.Species.Rise), (12, encL cInt g.Species.Thick), (13, encL cXRung g.Species.Ladder), (14, encL cXSpan g.Species.Sprouts), (10, [.slice (some ⟨11, 0, none⟩) (g.Species.Rise.length) (q11), .slice (some ⟨12, 0, none⟩) (g.Species.Thick.length) (q12), I (g.Species.Top), I (g.Species.Stout), I (g.Species.Shade), I (g.Species.Reach), .slice (some ⟨13, 0, none⟩) (g.Species.Ladder.length) (q13), .slice (some ⟨14, 0, none⟩) (g.Species.Sprouts.length) (q14)])]
noncomputable def growth_grower_inWeather (g : Xgrower) (usual : Int) (w : XWeather) : Option Int :=
  bif decide ((W (100 * (W (100 - g.Species.Shade)))) ≠ 0) then some (W ((W ((W (usual * (imax 0 (W (w.Light - g.Species.Shade))))) * w.Mild)).tdiv (W (100 * (W (100 - g.Species.Shade)))))) else none
theorem growth_grower_inWeather_fc (g : Xgrower) (usual : Int) (w : XWeather) (q11 q12 q13 q14 : Nat) (r : Int) (hh : growth_grower_inWeather g usual w = some r) : FC P GG 121 [.pointer (some ⟨10, 0, none⟩), I (usual), .agg #[I (w.Light), I (w.Browse), I (w.Mild)]] [(11, encL cInt g.Species.Rise), (12, encL cInt g.Species.Thick), (13, encL cXRung g.Species.Ladder), (14, encL cXSpan g.Species.Sprouts), (10, [.slice (some ⟨11, 0, none⟩) (g.Species.Rise.length) (q11), .slice (some ⟨12, 0, none⟩) (g.Species.Thick.length) (q12), I (g.Species.Top), I (g.Species.Stout), I (g.Species.Shade), I (g.Species.Reach), .slice (some ⟨13, 0, none⟩) (g.Species.Ladder.length) (q13), .slice (some ⟨14, 0, none⟩) (g.Species.Sprouts.length) (q14)])] (I (r)) := by
  refine FC.of_fsat 31 100 Tryd.func121 (by kernel_rfl) (by kernel_rfl) (by kernel_rfl) ⟨PinL.pf (encL_pf cInt_pf _), PinL.pf (encL_pf cInt_pf _), PinL.pf (encL_pf cXRung_pf _), PinL.pf (encL_pf cXSpan_pf _), PinL.lit (by kernel_rfl), trivial⟩ ?_
  rcases Bool.eq_false_or_eq_true (decide ((W (100 * (W (100 - g.Species.Shade)))) ≠ 0)) with h1 | h1
  rotate_left
  · skip
    have e : growth_grower_inWeather g usual w = none := by unfold growth_grower_inWeather; rw [h1, cond_false]; first | done | rfl
    rw [e] at hh; cases hh
  · skip
    have e : growth_grower_inWeather g usual w = some (W ((W ((W (usual * (imax 0 (W (w.Light - g.Species.Shade))))) * w.Mild)).tdiv (W (100 * (W (100 - g.Species.Shade)))))) := by unfold growth_grower_inWeather; rw [h1, cond_true]; first | done | rfl
    rw [e] at hh
    have hr := Option.some.inj hh
    rw [← hr]
    exact FSat.done pfT (fuel := 12) (hs := (hR 25 [hD, hE])) (ss := []) (R := [(W (100 * (W (100 - g.Species.Shade)))) ≠ 0]) (by kernel_rfl) ⟨of_decide_eq_true h1, trivial⟩ (by kernel_rfl)

/- (greenhew/growth.grower).height -/
noncomputable abbrev growth_grower_height_i0 (g : Xgrower) (x_1 : XStand) (q11 : Nat) (x1 : Int) : Hint := (hM (I (x1)) (I (x1)) (A_growth_atAge g.Species.Rise x_1.Age q11) (K_growth_atAge g.Species.Rise) [(10, 11, 0)])
noncomputable abbrev growth_grower_height_i1 (g : Xgrower) (w : XWeather) (q11 : Nat) (q12 : Nat) (q13 : Nat) (q14 : Nat) (x1 : Int) (x2 : Int) : Hint := (hM (I (x2)) (I (x2)) (A_growth_grower_inWeather x1 w) (K_growth_grower_inWeather g q11 q12 q13 q14) [(11, 11, 0), (12, 12, 0), (13, 13, 0), (14, 14, 0), (10, 10, 0)])
abbrev growth_grower_height_r2 (g : Xgrower) (x_1 : XStand) (q11 : Nat) (x1 : Int) : Prop := FC P GG 122 (A_growth_atAge g.Species.Rise x_1.Age q11) (K_growth_atAge g.Species.Rise) (I (x1))
abbrev growth_grower_height_r3 (g : Xgrower) (x_1 : XStand) (q11 : Nat) : Prop := VRs (Ren.emb [(10, 11, 0)]) (A_growth_atAge g.Species.Rise x_1.Age q11) [.slice (some ⟨11, 0, none⟩) (g.Species.Rise.length) (q11), I (x_1.Age)]
abbrev growth_grower_height_r4 (g : Xgrower) : Prop := MemAt (Ren.emb [(10, 11, 0)]) (encL cInt g.Species.Rise) 0 (encL cInt g.Species.Rise) ∧ True
abbrev growth_grower_height_r5 (g : Xgrower) (w : XWeather) (q11 : Nat) (q12 : Nat) (q13 : Nat) (q14 : Nat) (x1 : Int) (x2 : Int) : Prop := FC P GG 121 (A_growth_grower_inWeather x1 w) (K_growth_grower_inWeather g q11 q12 q13 q14) (I (x2))
abbrev growth_grower_height_r6 (w : XWeather) (x1 : Int) : Prop := VRs (Ren.emb [(11, 11, 0), (12, 12, 0), (13, 13, 0), (14, 14, 0), (10, 10, 0)]) (A_growth_grower_inWeather x1 w) [.pointer (some ⟨10, 0, none⟩), I (x1), .agg #[I (w.Light), I (w.Browse), I (w.Mild)]]
abbrev growth_grower_height_r7 (g : Xgrower) (q11 : Nat) (q12 : Nat) (q13 : Nat) (q14 : Nat) : Prop := MemAt (Ren.emb [(11, 11, 0), (12, 12, 0), (13, 13, 0), (14, 14, 0), (10, 10, 0)]) (encL cInt g.Species.Rise) 0 (encL cInt g.Species.Rise) ∧ MemAt (Ren.emb [(11, 11, 0), (12, 12, 0), (13, 13, 0), (14, 14, 0), (10, 10, 0)]) (encL cInt g.Species.Thick) 0 (encL cInt g.Species.Thick) ∧ MemAt (Ren.emb [(11, 11, 0), (12, 12, 0), (13, 13, 0), (14, 14, 0), (10, 10, 0)]) (encL cXRung g.Species.Ladder) 0 (encL cXRung g.Species.Ladder) ∧ MemAt (Ren.emb [(11, 11, 0), (12, 12, 0), (13, 13, 0), (14, 14, 0), (10, 10, 0)]) (encL cXSpan g.Species.Sprouts) 0 (encL cXSpan g.Species.Sprouts) ∧ MemAt (Ren.emb [(11, 11, 0), (12, 12, 0), (13, 13, 0), (14, 14, 0), (10, 10, 0)]) [.slice (some ⟨11, 0, none⟩) (g.Species.Rise.length) (q11), .slice (some ⟨12, 0, none⟩) (g.Species.Thick.length) (q12), I (g.Species.Top), I (g.Species.Stout), I (g.Species.Shade), I (g.Species.Reach), .slice (some ⟨13, 0, none⟩) (g.Species.Ladder.length) (q13), .slice (some ⟨14, 0, none⟩) (g.Species.Sprouts.length) (q14)] 0 [.slice (some ⟨11, 0, none⟩) (g.Species.Rise.length) (q11), .slice (some ⟨12, 0, none⟩) (g.Species.Thick.length) (q12), I (g.Species.Top), I (g.Species.Stout), I (g.Species.Shade), I (g.Species.Reach), .slice (some ⟨13, 0, none⟩) (g.Species.Ladder.length) (q13), .slice (some ⟨14, 0, none⟩) (g.Species.Sprouts.length) (q14)] ∧ True
abbrev growth_grower_height_r8 (x2 : Int) : Prop := VR (Ren.emb [(11, 11, 0), (12, 12, 0), (13, 13, 0), (14, 14, 0), (10, 10, 0)]) (I (x2)) (I (x2))
theorem growth_grower_height_p9 (g : Xgrower) (x_1 : XStand) (q11 : Nat) : (growth_grower_height_r3 g x_1 q11) := (.cons _ _ _ _ (.slc 10 0 _ _ _ ⟨11, 0, 0, 0⟩ rfl (.inl rfl)) (.cons _ _ _ _ (VR.of_pf rfl) .nil))
theorem growth_grower_height_p10 (w : XWeather) (x1 : Int) : (growth_grower_height_r6 w x1) := (.cons _ _ _ _ (.ptr 10 0 ⟨10, 0, 0, 0⟩ rfl) (.cons _ _ _ _ (VR.of_pf rfl) (.cons _ _ _ _ (VR.of_pf rfl) .nil)))
theorem growth_grower_height_p11 (g : Xgrower) (q11 : Nat) (q12 : Nat) (q13 : Nat) (q14 : Nat) : (growth_grower_height_r7 g q11 q12 q13 q14) := ⟨MemAt.same _ (encL_pf cInt_pf _), MemAt.same _ (encL_pf cInt_pf _), MemAt.same _ (encL_pf cXRung_pf _), MemAt.same _ (encL_pf cXSpan_pf _), MemAt.of (.cons _ _ _ _ (.slc 11 0 _ _ _ ⟨11, 0, 0, 0⟩ rfl (.inl rfl)) (.cons _ _ _ _ (.slc 12 0 _ _ _ ⟨12, 0, 0, 0⟩ rfl (.inl rfl)) (.cons _ _ _ _ (VR.of_pf rfl) (.cons _ _ _ _ (VR.of_pf rfl) (.cons _ _ _ _ (VR.of_pf rfl) (.cons _ _ _ _ (VR.of_pf rfl) (.cons _ _ _ _ (.slc 13 0 _ _ _ ⟨13, 0, 0, 0⟩ rfl (.inl rfl)) (.cons _ _ _ _ (.slc 14 0 _ _ _ ⟨14, 0, 0, 0⟩ rfl (.inl rfl)) .nil)))))))), trivial⟩
abbrev A_growth_grower_height (x_1 : XStand) (w : XWeather) : List Value := [.pointer (some ⟨10, 0, none⟩), .agg #[I (x_1.Age), I (x_1.Shoots), I (x_1.Height), I (x_1.Girth)], .agg #[I (w.Light), I (w.Browse), I (w.Mild)]]
abbrev K_growth_grower_height (g : Xgrower) (q11 : Nat) (q12 : Nat) (q13 : Nat) (q14 : Nat) : List (Nat × List Value) := [(11, encL cInt g.Species.Rise), (12, encL cInt g.Species.Thick), (13, encL cXRung g.Species.Ladder), (14, encL cXSpan g.Species.Sprouts), (10, [.slice (some ⟨11, 0, none⟩) (g.Species.Rise.length) (q11), .slice (some ⟨12, 0, none⟩) (g.Species.Thick.length) (q12), I (g.Species.Top), I (g.Species.Stout), I (g.Species.Shade), I (g.Species.Reach), .slice (some ⟨13, 0, none⟩) (g.Species.Ladder.length) (q13), .slice (some ⟨14, 0, none⟩) (g.Species.Sprouts.length) (q14)])]
noncomputable def growth_grower_height (g : Xgrower) (x_1 : XStand) (w : XWeather) : Option Int :=
  Option.bind (growth_atAge g.Species.Rise x_1.Age) fun x1 =>
  Option.bind (growth_grower_inWeather g x1 w) fun x2 =>
  bif decide (x_1.Height < g.Species.Reach) then some (imin (W (x_1.Height + (W ((W (x2 * (W (100 - w.Browse)))).tdiv 100)))) g.Species.Top)
  else some (imin (W (x_1.Height + x2)) g.Species.Top)
theorem growth_grower_height_fc (g : Xgrower) (x_1 : XStand) (w : XWeather) (q11 q12 q13 q14 : Nat) (r : Int) (hh : growth_grower_height g x_1 w = some r) : FC P GG 98 [.pointer (some ⟨10, 0, none⟩), .agg #[I (x_1.Age), I (x_1.Shoots), I (x_1.Height), I (x_1.Girth)], .agg #[I (w.Light), I (w.Browse), I (w.Mild)]] [(11, encL cInt g.Species.Rise), (12, encL cInt g.Species.Thick), (13, encL cXRung g.Species.Ladder), (14, encL cXSpan g.Species.Sprouts), (10, [.slice (some ⟨11, 0, none⟩) (g.Species.Rise.length) (q11), .slice (some ⟨12, 0, none⟩) (g.Species.Thick.length) (q12), I (g.Species.Top), I (g.Species.Stout), I (g.Species.Shade), I (g.Species.Reach), .slice (some ⟨13, 0, none⟩) (g.Species.Ladder.length) (q13), .slice (some ⟨14, 0, none⟩) (g.Species.Sprouts.length) (q14)])] (I (r)) := by
  refine FC.of_fsat 43 100 Tryd.func98 (by kernel_rfl) (by kernel_rfl) (by kernel_rfl) ⟨PinL.pf (encL_pf cInt_pf _), PinL.pf (encL_pf cInt_pf _), PinL.pf (encL_pf cXRung_pf _), PinL.pf (encL_pf cXSpan_pf _), PinL.lit (by kernel_rfl), trivial⟩ ?_
  cases h1 : growth_atAge g.Species.Rise x_1.Age with
  | none =>
    have e : growth_grower_height g x_1 w = none := by unfold growth_grower_height; rw [h1, Option.bind_none]; first | done | rfl
    rw [e] at hh; cases hh
  | some x1 =>
    cases h2 : growth_grower_inWeather g x1 w with
    | none =>
      have e : growth_grower_height g x_1 w = none := by unfold growth_grower_height; rw [h1, Option.bind_some, h2, Option.bind_none]; first | done | rfl
      rw [e] at hh; cases hh
    | some x2 =>
      rcases Bool.eq_false_or_eq_true (decide (x_1.Height < g.Species.Reach)) with h3 | h3
      · skip
        have e : growth_grower_height g x_1 w = some (imin (W (x_1.Height + (W ((W (x2 * (W (100 - w.Browse)))).tdiv 100)))) g.Species.Top) := by unfold growth_grower_height; rw [h1, Option.bind_some, h2, Option.bind_some, h3, cond_true]; first | done | rfl
        rw [e] at hh
        have hr := Option.some.inj hh
        rw [← hr]
        exact FSat.done pfT (fuel := 17) (hs := (hR 11 ((growth_grower_height_i0 g x_1 q11 x1) :: hE :: (growth_grower_height_i1 g w q11 q12 q13 q14 x1 x2) :: (hR 8 (hT :: (hR 18 [])))))) (ss := []) (R := [(growth_grower_height_r2 g x_1 q11 x1), (growth_grower_height_r3 g x_1 q11), (growth_grower_height_r4 g), VR (Ren.emb [(10, 11, 0)]) (I (x1)) (I (x1)), (growth_grower_height_r5 g w q11 q12 q13 q14 x1 x2), (growth_grower_height_r6 w x1), (growth_grower_height_r7 g q11 q12 q13 q14), (growth_grower_height_r8 x2), (decide (x_1.Height < g.Species.Reach)) = true]) (by kernel_rfl) ⟨growth_atAge_fc g.Species.Rise x_1.Age q11 x1 h1, growth_grower_height_p9 g x_1 q11, ⟨MemAt.same _ (encL_pf cInt_pf _), trivial⟩, selfB_self 9 _ rfl _, growth_grower_inWeather_fc g x1 w q11 q12 q13 q14 x2 h2, growth_grower_height_p10 w x1, growth_grower_height_p11 g q11 q12 q13 q14, selfB_self 9 _ rfl _, h3, trivial⟩ (by kernel_rfl)
      · skip
        have e : growth_grower_height g x_1 w = some (imin (W (x_1.Height + x2)) g.Species.Top) := by unfold growth_grower_height; rw [h1, Option.bind_some, h2, Option.bind_some, h3, cond_false]; first | done | rfl
        rw [e] at hh
        have hr := Option.some.inj hh
        rw [← hr]
        exact FSat.done pfT (fuel := 17) (hs := (hR 11 ((growth_grower_height_i0 g x_1 q11 x1) :: hE :: (growth_grower_height_i1 g w q11 q12 q13 q14 x1 x2) :: (hR 8 (hF :: (hR 11 [])))))) (ss := []) (R := [(growth_grower_height_r2 g x_1 q11 x1), (growth_grower_height_r3 g x_1 q11), (growth_grower_height_r4 g), VR (Ren.emb [(10, 11, 0)]) (I (x1)) (I (x1)), (growth_grower_height_r5 g w q11 q12 q13 q14 x1 x2), (growth_grower_height_r6 w x1), (growth_grower_height_r7 g q11 q12 q13 q14), (growth_grower_height_r8 x2), (decide (x_1.Height < g.Species.Reach)) = false]) (by kernel_rfl) ⟨growth_atAge_fc g.Species.Rise x_1.Age q11 x1 h1, growth_grower_height_p9 g x_1 q11, ⟨MemAt.same _ (encL_pf cInt_pf _), trivial⟩, selfB_self 9 _ rfl _, growth_grower_inWeather_fc g x1 w q11 q12 q13 q14 x2 h2, growth_grower_height_p10 w x1, growth_grower_height_p11 g q11 q12 q13 q14, selfB_self 9 _ rfl _, h3, trivial⟩ (by kernel_rfl)

/- (greenhew/growth.grower).shoots -/
noncomputable abbrev growth_grower_shoots_i0 (g : Xgrower) (v23 : Int) : Hint := (hL (.agg #[I ((at_ zXRung g.Species.Ladder v23).Height), I ((at_ zXRung g.Species.Ladder v23).Shoots)]))
abbrev growth_grower_shoots_r1 (g : Xgrower) (v23 : Int) : Prop := (decide (v23 < ((g.Species.Ladder.length : Nat) : Int))) = true
abbrev growth_grower_shoots_r2 (g : Xgrower) (v23 : Int) : Prop := RowLd P 119 (encL cXRung g.Species.Ladder) (0 + v23.toNat * 2) (.agg #[I ((at_ zXRung g.Species.Ladder v23).Height), I ((at_ zXRung g.Species.Ladder v23).Shoots)])
abbrev growth_grower_shoots_r3 (g : Xgrower) (v23 : Int) (x1 : Int) : Prop := (decide (((at_ zXRung g.Species.Ladder v23).Height) ≤ x1)) = true
abbrev growth_grower_shoots_r4 (g : Xgrower) (v23 : Int) (x1 : Int) : Prop := (decide (((at_ zXRung g.Species.Ladder v23).Height) ≤ x1)) = false
abbrev growth_grower_shoots_r5 (g : Xgrower) (v23 : Int) : Prop := (decide (v23 < ((g.Species.Ladder.length : Nat) : Int))) = false
noncomputable abbrev growth_grower_shoots_i6 (g : Xgrower) (x_1 : XStand) (w : XWeather) (q11 : Nat) (q12 : Nat) (q13 : Nat) (q14 : Nat) (x1 : Int) : Hint := (hM (I (x1)) (I (x1)) (A_growth_grower_height x_1 w) (K_growth_grower_height g q11 q12 q13 q14) [(11, 11, 0), (12, 12, 0), (13, 13, 0), (14, 14, 0), (10, 10, 0)])
abbrev growth_grower_shoots_r7 (g : Xgrower) (x_1 : XStand) (w : XWeather) (q11 : Nat) (q12 : Nat) (q13 : Nat) (q14 : Nat) (x1 : Int) : Prop := FC P GG 98 (A_growth_grower_height x_1 w) (K_growth_grower_height g q11 q12 q13 q14) (I (x1))
abbrev growth_grower_shoots_r8 (x_1 : XStand) (w : XWeather) : Prop := VRs (Ren.emb [(11, 11, 0), (12, 12, 0), (13, 13, 0), (14, 14, 0), (10, 10, 0)]) (A_growth_grower_height x_1 w) [.pointer (some ⟨10, 0, none⟩), .agg #[I (x_1.Age), I (x_1.Shoots), I (x_1.Height), I (x_1.Girth)], .agg #[I (w.Light), I (w.Browse), I (w.Mild)]]
abbrev growth_grower_shoots_r9 (g : Xgrower) (q11 : Nat) (q12 : Nat) (q13 : Nat) (q14 : Nat) : Prop := MemAt (Ren.emb [(11, 11, 0), (12, 12, 0), (13, 13, 0), (14, 14, 0), (10, 10, 0)]) (encL cInt g.Species.Rise) 0 (encL cInt g.Species.Rise) ∧ MemAt (Ren.emb [(11, 11, 0), (12, 12, 0), (13, 13, 0), (14, 14, 0), (10, 10, 0)]) (encL cInt g.Species.Thick) 0 (encL cInt g.Species.Thick) ∧ MemAt (Ren.emb [(11, 11, 0), (12, 12, 0), (13, 13, 0), (14, 14, 0), (10, 10, 0)]) (encL cXRung g.Species.Ladder) 0 (encL cXRung g.Species.Ladder) ∧ MemAt (Ren.emb [(11, 11, 0), (12, 12, 0), (13, 13, 0), (14, 14, 0), (10, 10, 0)]) (encL cXSpan g.Species.Sprouts) 0 (encL cXSpan g.Species.Sprouts) ∧ MemAt (Ren.emb [(11, 11, 0), (12, 12, 0), (13, 13, 0), (14, 14, 0), (10, 10, 0)]) [.slice (some ⟨11, 0, none⟩) (g.Species.Rise.length) (q11), .slice (some ⟨12, 0, none⟩) (g.Species.Thick.length) (q12), I (g.Species.Top), I (g.Species.Stout), I (g.Species.Shade), I (g.Species.Reach), .slice (some ⟨13, 0, none⟩) (g.Species.Ladder.length) (q13), .slice (some ⟨14, 0, none⟩) (g.Species.Sprouts.length) (q14)] 0 [.slice (some ⟨11, 0, none⟩) (g.Species.Rise.length) (q11), .slice (some ⟨12, 0, none⟩) (g.Species.Thick.length) (q12), I (g.Species.Top), I (g.Species.Stout), I (g.Species.Shade), I (g.Species.Reach), .slice (some ⟨13, 0, none⟩) (g.Species.Ladder.length) (q13), .slice (some ⟨14, 0, none⟩) (g.Species.Sprouts.length) (q14)] ∧ True
abbrev growth_grower_shoots_r10 (x1 : Int) : Prop := VR (Ren.emb [(11, 11, 0), (12, 12, 0), (13, 13, 0), (14, 14, 0), (10, 10, 0)]) (I (x1)) (I (x1))
theorem growth_grower_shoots_p11 (x_1 : XStand) (w : XWeather) : (growth_grower_shoots_r8 x_1 w) := (.cons _ _ _ _ (.ptr 10 0 ⟨10, 0, 0, 0⟩ rfl) (.cons _ _ _ _ (VR.of_pf rfl) (.cons _ _ _ _ (VR.of_pf rfl) .nil)))
theorem growth_grower_shoots_p12 (g : Xgrower) (q11 : Nat) (q12 : Nat) (q13 : Nat) (q14 : Nat) : (growth_grower_shoots_r9 g q11 q12 q13 q14) := ⟨MemAt.same _ (encL_pf cInt_pf _), MemAt.same _ (encL_pf cInt_pf _), MemAt.same _ (encL_pf cXRung_pf _), MemAt.same _ (encL_pf cXSpan_pf _), MemAt.of (.cons _ _ _ _ (.slc 11 0 _ _ _ ⟨11, 0, 0, 0⟩ rfl (.inl rfl)) (.cons _ _ _ _ (.slc 12 0 _ _ _ ⟨12, 0, 0, 0⟩ rfl (.inl rfl)) (.cons _ _ _ _ (VR.of_pf rfl) (.cons _ _ _ _ (VR.of_pf rfl) (.cons _ _ _ _ (VR.of_pf rfl) (.cons _ _ _ _ (VR.of_pf rfl) (.cons _ _ _ _ (.slc 13 0 _ _ _ ⟨13, 0, 0, 0⟩ rfl (.inl rfl)) (.cons _ _ _ _ (.slc 14 0 _ _ _ ⟨14, 0, 0, 0⟩ rfl (.inl rfl)) .nil)))))))), trivial⟩
abbrev A_growth_grower_shoots (x_1 : XStand) (w : XWeather) : List Value := [.pointer (some ⟨10, 0, none⟩), .agg #[I (x_1.Age), I (x_1.Shoots), I (x_1.Height), I (x_1.Girth)], .agg #[I (w.Light), I (w.Browse), I (w.Mild)]]
abbrev K_growth_grower_shoots (g : Xgrower) (q11 : Nat) (q12 : Nat) (q13 : Nat) (q14 : Nat) : List (Nat × List Value) := [(11, encL cInt g.Species.Rise), (12, encL cInt g.Species.Thick), (13, encL cXRung g.Species.Ladder), (14, encL cXSpan g.Species.Sprouts), (10, [.slice (some ⟨11, 0, none⟩) (g.Species.Rise.length) (q11), .slice (some ⟨12, 0, none⟩) (g.Species.Thick.length) (q12), I (g.Species.Top), I (g.Species.Stout), I (g.Species.Shade), I (g.Species.Reach), .slice (some ⟨13, 0, none⟩) (g.Species.Ladder.length) (q13), .slice (some ⟨14, 0, none⟩) (g.Species.Sprouts.length) (q14)])]
noncomputable def growth_grower_shoots_L (fu : Nat) (g : Xgrower) (x_1 : XStand) (w : XWeather) : Nat → (Int → Int → Int → Option Int)
  | 0 => (fun _ _ _ => none)
  | fk + 1 => (fun v8 v23 x1 => bif decide (v23 < ((g.Species.Ladder.length : Nat) : Int)) then (bif decide (0 ≤ v23 ∧ v23 < ((g.Species.Ladder.length : Nat) : Int)) then (bif decide (((at_ zXRung g.Species.Ladder v23).Height) ≤ x1) then growth_grower_shoots_L fu g x_1 w fk (imin v8 ((at_ zXRung g.Species.Ladder v23).Shoots)) (W (v23 + 1)) x1
        else growth_grower_shoots_L fu g x_1 w fk v8 (W (v23 + 1)) x1) else none)
      else some v8)
theorem growth_grower_shoots_L_s0 (fu : Nat) (g : Xgrower) (x_1 : XStand) (w : XWeather) (fk : Nat) (v8 : Int) (v23 : Int) (x1 : Int) : growth_grower_shoots_L fu g x_1 w (fk + 1) v8 v23 x1 = (bif decide (v23 < ((g.Species.Ladder.length : Nat) : Int)) then (bif decide (0 ≤ v23 ∧ v23 < ((g.Species.Ladder.length : Nat) : Int)) then (bif decide (((at_ zXRung g.Species.Ladder v23).Height) ≤ x1) then growth_grower_shoots_L fu g x_1 w fk (imin v8 ((at_ zXRung g.Species.Ladder v23).Shoots)) (W (v23 + 1)) x1
        else growth_grower_shoots_L fu g x_1 w fk v8 (W (v23 + 1)) x1) else none)
      else some v8) := rfl
noncomputable def growth_grower_shoots (fu : Nat) (g : Xgrower) (x_1 : XStand) (w : XWeather) : Option Int :=
  Option.bind (growth_grower_height g x_1 w) fun x1 =>
  growth_grower_shoots_L fu g x_1 w fu x_1.Shoots 0 x1
theorem growth_grower_shoots_L_fs (fu : Nat) (g : Xgrower) (x_1 : XStand) (w : XWeather) (q11 q12 q13 q14 : Nat) : ∀ fk, (∀ (v8 : Int) (v23 : Int) (x1 : Int) (r : Int), growth_grower_shoots_L fu g x_1 w fk v8 v23 x1 = some r → FSat P GG Tryd.f97 (I (r)) (ids (looses [(11, encL cInt g.Species.Rise), (12, encL cInt g.Species.Thick), (13, encL cXRung g.Species.Ladder), (14, encL cXSpan g.Species.Sprouts), (10, [.slice (some ⟨11, 0, none⟩) (g.Species.Rise.length) (q11), .slice (some ⟨12, 0, none⟩) (g.Species.Thick.length) (q12), I (g.Species.Top), I (g.Species.Stout), I (g.Species.Shade), I (g.Species.Reach), .slice (some ⟨13, 0, none⟩) (g.Species.Ladder.length) (q13), .slice (some ⟨14, 0, none⟩) (g.Species.Sprouts.length) (q14)])])) 37 [.lp (cA (bodyOf Tryd.f97) [1, 1, 0, 1, 0, 0]), .blk 0, .code (cA (bodyOf Tryd.f97) [1, 1, 1])] (tOf 37 [(6, I (0)), (7, I (x1)), (8, I (v8)), (21, .slice (some ⟨13, 0, none⟩) (g.Species.Ladder.length) (q13)), (22, I (((g.Species.Ladder.length : Nat) : Int))), (23, I (v23))]) (mOf 100 [(0, .rom [I (1), I (2), I (3)] .glob), (10, .rom ([.slice (some ⟨11, 0, none⟩) (g.Species.Rise.length) (q11), .slice (some ⟨12, 0, none⟩) (g.Species.Thick.length) (q12), I (g.Species.Top), I (g.Species.Stout), I (g.Species.Shade), I (g.Species.Reach), .slice (some ⟨13, 0, none⟩) (g.Species.Ladder.length) (q13), .slice (some ⟨14, 0, none⟩) (g.Species.Sprouts.length) (q14)]) .loose), (11, .rom (encL cInt g.Species.Rise) .loose), (12, .rom (encL cInt g.Species.Thick) .loose), (13, .rom (encL cXRung g.Species.Ladder) .loose), (14, .rom (encL cXSpan g.Species.Sprouts) .loose)])) := by
  intro fk
  induction fk with
  | zero => exact fun _ _ _ r hh => by cases hh
  | succ fk ih =>
    · intro v8 v23 x1 r hh
      rcases Bool.eq_false_or_eq_true (decide (v23 < ((g.Species.Ladder.length : Nat) : Int))) with h1 | h1
      · skip
        rcases Bool.eq_false_or_eq_true (decide (0 ≤ v23 ∧ v23 < ((g.Species.Ladder.length : Nat) : Int))) with h2 | h2
        rotate_left
        · skip
          have e : growth_grower_shoots_L fu g x_1 w (fk + 1) v8 v23 x1 = none := by rw [growth_grower_shoots_L_s0]; rw [h1, cond_true, h2, cond_false]; first | done | rfl
          rw [e] at hh; cases hh
        · skip
          rcases Bool.eq_false_or_eq_true (decide (((at_ zXRung g.Species.Ladder v23).Height) ≤ x1)) with h3 | h3
          · skip
            have e : growth_grower_shoots_L fu g x_1 w (fk + 1) v8 v23 x1 = growth_grower_shoots_L fu g x_1 w fk (imin v8 ((at_ zXRung g.Species.Ladder v23).Shoots)) (W (v23 + 1)) x1 := by rw [growth_grower_shoots_L_s0]; rw [h1, cond_true, h2, cond_true, h3, cond_true]; first | done | rfl
            rw [e] at hh
            have nx := ih (imin v8 ((at_ zXRung g.Species.Ladder v23).Shoots)) (W (v23 + 1)) x1 r hh
            refine FSat.stop pfT (fuel := 22) (hs := (hT :: hX :: (growth_grower_shoots_i0 g v23) :: (hR 5 (hT :: (hR 7 []))))) (ss := [.go, .st [6, 7, 8, 21, 22, 23] [0, 10, 11, 12, 13, 14]]) (R := [(growth_grower_shoots_r1 g v23), 0 ≤ v23 ∧ v23 < ((g.Species.Ladder.length : Nat) : Int), (growth_grower_shoots_r2 g v23), (growth_grower_shoots_r3 g v23 x1)]) (by kernel_rfl) ⟨h1, of_decide_eq_true h2, RowLd.elem cXRung_len _ (.inl ⟨_, rfl⟩) rfl rfl _ _ (of_decide_eq_true h2), h3, trivial⟩ 100 (by kernel_rfl) ?_ nx
            exact ⟨PinL.lit (by kernel_rfl), PinL.lit (by kernel_rfl), PinL.pf (encL_pf cInt_pf _), PinL.pf (encL_pf cInt_pf _), PinL.pf (encL_pf cXRung_pf _), PinL.pf (encL_pf cXSpan_pf _), trivial⟩
          · skip
            have e : growth_grower_shoots_L fu g x_1 w (fk + 1) v8 v23 x1 = growth_grower_shoots_L fu g x_1 w fk v8 (W (v23 + 1)) x1 := by rw [growth_grower_shoots_L_s0]; rw [h1, cond_true, h2, cond_true, h3, cond_false]; first | done | rfl
            rw [e] at hh
            have nx := ih v8 (W (v23 + 1)) x1 r hh
            refine FSat.stop pfT (fuel := 22) (hs := (hT :: hX :: (growth_grower_shoots_i0 g v23) :: (hR 5 [hF, hE, hE]))) (ss := [.go, .st [6, 7, 8, 21, 22, 23] [0, 10, 11, 12, 13, 14]]) (R := [(growth_grower_shoots_r1 g v23), 0 ≤ v23 ∧ v23 < ((g.Species.Ladder.length : Nat) : Int), (growth_grower_shoots_r2 g v23), (growth_grower_shoots_r4 g v23 x1)]) (by kernel_rfl) ⟨h1, of_decide_eq_true h2, RowLd.elem cXRung_len _ (.inl ⟨_, rfl⟩) rfl rfl _ _ (of_decide_eq_true h2), h3, trivial⟩ 100 (by kernel_rfl) ?_ nx
            exact ⟨PinL.lit (by kernel_rfl), PinL.lit (by kernel_rfl), PinL.pf (encL_pf cInt_pf _), PinL.pf (encL_pf cInt_pf _), PinL.pf (encL_pf cXRung_pf _), PinL.pf (encL_pf cXSpan_pf _), trivial⟩
      · skip
        have e : growth_grower_shoots_L fu g x_1 w (fk + 1) v8 v23 x1 = some v8 := by rw [growth_grower_shoots_L_s0]; rw [h1, cond_false]; first | done | rfl
        rw [e] at hh
        have hr := Option.some.inj hh
        rw [← hr]
        exact FSat.done pfT (fuel := 14) (hs := [hF, hE, hE]) (ss := [.go]) (R := [(growth_grower_shoots_r5 g v23)]) (by kernel_rfl) ⟨h1, trivial⟩ (by kernel_rfl)
theorem growth_grower_shoots_fc (fu : Nat) (g : Xgrower) (x_1 : XStand) (w : XWeather) (q11 q12 q13 q14 : Nat) (r : Int) (hh : growth_grower_shoots fu g x_1 w = some r) : FC P GG 97 [.pointer (some ⟨10, 0, none⟩), .agg #[I (x_1.Age), I (x_1.Shoots), I (x_1.Height), I (x_1.Girth)], .agg #[I (w.Light), I (w.Browse), I (w.Mild)]] [(11, encL cInt g.Species.Rise), (12, encL cInt g.Species.Thick), (13, encL cXRung g.Species.Ladder), (14, encL cXSpan g.Species.Sprouts), (10, [.slice (some ⟨11, 0, none⟩) (g.Species.Rise.length) (q11), .slice (some ⟨12, 0, none⟩) (g.Species.Thick.length) (q12), I (g.Species.Top), I (g.Species.Stout), I (g.Species.Shade), I (g.Species.Reach), .slice (some ⟨13, 0, none⟩) (g.Species.Ladder.length) (q13), .slice (some ⟨14, 0, none⟩) (g.Species.Sprouts.length) (q14)])] (I (r)) := by
  refine FC.of_fsat 37 100 Tryd.func97 (by kernel_rfl) (by kernel_rfl) (by kernel_rfl) ⟨PinL.pf (encL_pf cInt_pf _), PinL.pf (encL_pf cInt_pf _), PinL.pf (encL_pf cXRung_pf _), PinL.pf (encL_pf cXSpan_pf _), PinL.lit (by kernel_rfl), trivial⟩ ?_
  cases h1 : growth_grower_height g x_1 w with
  | none =>
    have e : growth_grower_shoots fu g x_1 w = none := by unfold growth_grower_shoots; rw [h1, Option.bind_none]; first | done | rfl
    rw [e] at hh; cases hh
  | some x1 =>
    have e : growth_grower_shoots fu g x_1 w = growth_grower_shoots_L fu g x_1 w fu x_1.Shoots 0 x1 := by unfold growth_grower_shoots; rw [h1, Option.bind_some]; first | done | rfl
    rw [e] at hh
    have nx := growth_grower_shoots_L_fs fu g x_1 w q11 q12 q13 q14 fu x_1.Shoots 0 x1 r hh
    refine FSat.stop pfT (fuel := 15) (hs := (hR 6 ((growth_grower_shoots_i6 g x_1 w q11 q12 q13 q14 x1) :: (hR 11 [])))) (ss := [.st [6, 7, 8, 21, 22, 23] [0, 10, 11, 12, 13, 14]]) (R := [(growth_grower_shoots_r7 g x_1 w q11 q12 q13 q14 x1), (growth_grower_shoots_r8 x_1 w), (growth_grower_shoots_r9 g q11 q12 q13 q14), (growth_grower_shoots_r10 x1)]) (by kernel_rfl) ⟨growth_grower_height_fc g x_1 w q11 q12 q13 q14 x1 h1, growth_grower_shoots_p11 x_1 w, growth_grower_shoots_p12 g q11 q12 q13 q14, selfB_self 9 _ rfl _, trivial⟩ 100 (by kernel_rfl) ?_ nx
    exact ⟨PinL.lit (by kernel_rfl), PinL.lit (by kernel_rfl), PinL.pf (encL_pf cInt_pf _), PinL.pf (encL_pf cInt_pf _), PinL.pf (encL_pf cXRung_pf _), PinL.pf (encL_pf cXSpan_pf _), trivial⟩

/- (greenhew/growth.grower).girth -/
noncomputable abbrev growth_grower_girth_i0 (g : Xgrower) (x_1 : XStand) (q12 : Nat) (x1 : Int) : Hint := (hM (I (x1)) (I (x1)) (A_growth_atAge g.Species.Thick x_1.Age q12) (K_growth_atAge g.Species.Thick) [(10, 12, 0)])
noncomputable abbrev growth_grower_girth_i1 (g : Xgrower) (w : XWeather) (q11 : Nat) (q12 : Nat) (q13 : Nat) (q14 : Nat) (x1 : Int) (x2 : Int) : Hint := (hM (I (x2)) (I (x2)) (A_growth_grower_inWeather x1 w) (K_growth_grower_inWeather g q11 q12 q13 q14) [(11, 11, 0), (12, 12, 0), (13, 13, 0), (14, 14, 0), (10, 10, 0)])
abbrev growth_grower_girth_r2 (g : Xgrower) (x_1 : XStand) (q12 : Nat) (x1 : Int) : Prop := FC P GG 122 (A_growth_atAge g.Species.Thick x_1.Age q12) (K_growth_atAge g.Species.Thick) (I (x1))
abbrev growth_grower_girth_r3 (g : Xgrower) (x_1 : XStand) (q12 : Nat) : Prop := VRs (Ren.emb [(10, 12, 0)]) (A_growth_atAge g.Species.Thick x_1.Age q12) [.slice (some ⟨12, 0, none⟩) (g.Species.Thick.length) (q12), I (x_1.Age)]
abbrev growth_grower_girth_r4 (g : Xgrower) : Prop := MemAt (Ren.emb [(10, 12, 0)]) (encL cInt g.Species.Thick) 0 (encL cInt g.Species.Thick) ∧ True
abbrev growth_grower_girth_r5 (g : Xgrower) (w : XWeather) (q11 : Nat) (q12 : Nat) (q13 : Nat) (q14 : Nat) (x1 : Int) (x2 : Int) : Prop := FC P GG 121 (A_growth_grower_inWeather x1 w) (K_growth_grower_inWeather g q11 q12 q13 q14) (I (x2))
abbrev growth_grower_girth_r6 (w : XWeather) (x1 : Int) : Prop := VRs (Ren.emb [(11, 11, 0), (12, 12, 0), (13, 13, 0), (14, 14, 0), (10, 10, 0)]) (A_growth_grower_inWeather x1 w) [.pointer (some ⟨10, 0, none⟩), I (x1), .agg #[I (w.Light), I (w.Browse), I (w.Mild)]]
abbrev growth_grower_girth_r7 (g : Xgrower) (q11 : Nat) (q12 : Nat) (q13 : Nat) (q14 : Nat) : Prop := MemAt (Ren.emb [(11, 11, 0), (12, 12, 0), (13, 13, 0), (14, 14, 0), (10, 10, 0)]) (encL cInt g.Species.Rise) 0 (encL cInt g.Species.Rise) ∧ MemAt (Ren.emb [(11, 11, 0), (12, 12, 0), (13, 13, 0), (14, 14, 0), (10, 10, 0)]) (encL cInt g.Species.Thick) 0 (encL cInt g.Species.Thick) ∧ MemAt (Ren.emb [(11, 11, 0), (12, 12, 0), (13, 13, 0), (14, 14, 0), (10, 10, 0)]) (encL cXRung g.Species.Ladder) 0 (encL cXRung g.Species.Ladder) ∧ MemAt (Ren.emb [(11, 11, 0), (12, 12, 0), (13, 13, 0), (14, 14, 0), (10, 10, 0)]) (encL cXSpan g.Species.Sprouts) 0 (encL cXSpan g.Species.Sprouts) ∧ MemAt (Ren.emb [(11, 11, 0), (12, 12, 0), (13, 13, 0), (14, 14, 0), (10, 10, 0)]) [.slice (some ⟨11, 0, none⟩) (g.Species.Rise.length) (q11), .slice (some ⟨12, 0, none⟩) (g.Species.Thick.length) (q12), I (g.Species.Top), I (g.Species.Stout), I (g.Species.Shade), I (g.Species.Reach), .slice (some ⟨13, 0, none⟩) (g.Species.Ladder.length) (q13), .slice (some ⟨14, 0, none⟩) (g.Species.Sprouts.length) (q14)] 0 [.slice (some ⟨11, 0, none⟩) (g.Species.Rise.length) (q11), .slice (some ⟨12, 0, none⟩) (g.Species.Thick.length) (q12), I (g.Species.Top), I (g.Species.Stout), I (g.Species.Shade), I (g.Species.Reach), .slice (some ⟨13, 0, none⟩) (g.Species.Ladder.length) (q13), .slice (some ⟨14, 0, none⟩) (g.Species.Sprouts.length) (q14)] ∧ True
abbrev growth_grower_girth_r8 (x2 : Int) : Prop := VR (Ren.emb [(11, 11, 0), (12, 12, 0), (13, 13, 0), (14, 14, 0), (10, 10, 0)]) (I (x2)) (I (x2))
theorem growth_grower_girth_p9 (g : Xgrower) (x_1 : XStand) (q12 : Nat) : (growth_grower_girth_r3 g x_1 q12) := (.cons _ _ _ _ (.slc 10 0 _ _ _ ⟨12, 0, 0, 0⟩ rfl (.inl rfl)) (.cons _ _ _ _ (VR.of_pf rfl) .nil))
theorem growth_grower_girth_p10 (w : XWeather) (x1 : Int) : (growth_grower_girth_r6 w x1) := (.cons _ _ _ _ (.ptr 10 0 ⟨10, 0, 0, 0⟩ rfl) (.cons _ _ _ _ (VR.of_pf rfl) (.cons _ _ _ _ (VR.of_pf rfl) .nil)))
theorem growth_grower_girth_p11 (g : Xgrower) (q11 : Nat) (q12 : Nat) (q13 : Nat) (q14 : Nat) : (growth_grower_girth_r7 g q11 q12 q13 q14) := ⟨MemAt.same _ (encL_pf cInt_pf _), MemAt.same _ (encL_pf cInt_pf _), MemAt.same _ (encL_pf cXRung_pf _), MemAt.same _ (encL_pf cXSpan_pf _), MemAt.of (.cons _ _ _ _ (.slc 11 0 _ _ _ ⟨11, 0, 0, 0⟩ rfl (.inl rfl)) (.cons _ _ _ _ (.slc 12 0 _ _ _ ⟨12, 0, 0, 0⟩ rfl (.inl rfl)) (.cons _ _ _ _ (VR.of_pf rfl) (.cons _ _ _ _ (VR.of_pf rfl) (.cons _ _ _ _ (VR.of_pf rfl) (.cons _ _ _ _ (VR.of_pf rfl) (.cons _ _ _ _ (.slc 13 0 _ _ _ ⟨13, 0, 0, 0⟩ rfl (.inl rfl)) (.cons _ _ _ _ (.slc 14 0 _ _ _ ⟨14, 0, 0, 0⟩ rfl (.inl rfl)) .nil)))))))), trivial⟩
abbrev A_growth_grower_girth (x_1 : XStand) (w : XWeather) : List Value := [.pointer (some ⟨10, 0, none⟩), .agg #[I (x_1.Age), I (x_1.Shoots), I (x_1.Height), I (x_1.Girth)], .agg #[I (w.Light), I (w.Browse), I (w.Mild)]]
abbrev K_growth_grower_girth (g : Xgrower) (q11 : Nat) (q12 : Nat) (q13 : Nat) (q14 : Nat) : List (Nat × List Value) := [(11, encL cInt g.Species.Rise), (12, encL cInt g.Species.Thick), (13, encL cXRung g.Species.Ladder), (14, encL cXSpan g.Species.Sprouts), (10, [.slice (some ⟨11, 0, none⟩) (g.Species.Rise.length) (q11), .slice (some ⟨12, 0, none⟩) (g.Species.Thick.length) (q12), I (g.Species.Top), I (g.Species.Stout), I (g.Species.Shade), I (g.Species.Reach), .slice (some ⟨13, 0, none⟩) (g.Species.Ladder.length) (q13), .slice (some ⟨14, 0, none⟩) (g.Species.Sprouts.length) (q14)])]
noncomputable def growth_grower_girth (g : Xgrower) (x_1 : XStand) (w : XWeather) : Option Int :=
  Option.bind (growth_atAge g.Species.Thick x_1.Age) fun x1 =>
  Option.bind (growth_grower_inWeather g x1 w) fun x2 =>
  bif decide ((W (100 + x_1.Shoots)) ≠ 0) then some (imin (W (x_1.Girth + (W ((W (x2 * 100)).tdiv (W (100 + x_1.Shoots)))))) g.Species.Stout) else none
theorem growth_grower_girth_fc (g : Xgrower) (x_1 : XStand) (w : XWeather) (q11 q12 q13 q14 : Nat) (r : Int) (hh : growth_grower_girth g x_1 w = some r) : FC P GG 99 [.pointer (some ⟨10, 0, none⟩), .agg #[I (x_1.Age), I (x_1.Shoots), I (x_1.Height), I (x_1.Girth)], .agg #[I (w.Light), I (w.Browse), I (w.Mild)]] [(11, encL cInt g.Species.Rise), (12, encL cInt g.Species.Thick), (13, encL cXRung g.Species.Ladder), (14, encL cXSpan g.Species.Sprouts), (10, [.slice (some ⟨11, 0, none⟩) (g.Species.Rise.length) (q11), .slice (some ⟨12, 0, none⟩) (g.Species.Thick.length) (q12), I (g.Species.Top), I (g.Species.Stout), I (g.Species.Shade), I (g.Species.Reach), .slice (some ⟨13, 0, none⟩) (g.Species.Ladder.length) (q13), .slice (some ⟨14, 0, none⟩) (g.Species.Sprouts.length) (q14)])] (I (r)) := by
  refine FC.of_fsat 34 100 Tryd.func99 (by kernel_rfl) (by kernel_rfl) (by kernel_rfl) ⟨PinL.pf (encL_pf cInt_pf _), PinL.pf (encL_pf cInt_pf _), PinL.pf (encL_pf cXRung_pf _), PinL.pf (encL_pf cXSpan_pf _), PinL.lit (by kernel_rfl), trivial⟩ ?_
  cases h1 : growth_atAge g.Species.Thick x_1.Age with
  | none =>
    have e : growth_grower_girth g x_1 w = none := by unfold growth_grower_girth; rw [h1, Option.bind_none]; first | done | rfl
    rw [e] at hh; cases hh
  | some x1 =>
    cases h2 : growth_grower_inWeather g x1 w with
    | none =>
      have e : growth_grower_girth g x_1 w = none := by unfold growth_grower_girth; rw [h1, Option.bind_some, h2, Option.bind_none]; first | done | rfl
      rw [e] at hh; cases hh
    | some x2 =>
      rcases Bool.eq_false_or_eq_true (decide ((W (100 + x_1.Shoots)) ≠ 0)) with h3 | h3
      rotate_left
      · skip
        have e : growth_grower_girth g x_1 w = none := by unfold growth_grower_girth; rw [h1, Option.bind_some, h2, Option.bind_some, h3, cond_false]; first | done | rfl
        rw [e] at hh; cases hh
      · skip
        have e : growth_grower_girth g x_1 w = some (imin (W (x_1.Girth + (W ((W (x2 * 100)).tdiv (W (100 + x_1.Shoots)))))) g.Species.Stout) := by unfold growth_grower_girth; rw [h1, Option.bind_some, h2, Option.bind_some, h3, cond_true]; first | done | rfl
        rw [e] at hh
        have hr := Option.some.inj hh
        rw [← hr]
        exact FSat.done pfT (fuel := 12) (hs := (hR 11 ((growth_grower_girth_i0 g x_1 q12 x1) :: hE :: (growth_grower_girth_i1 g w q11 q12 q13 q14 x1 x2) :: (hR 8 (hD :: (hR 8 [])))))) (ss := []) (R := [(growth_grower_girth_r2 g x_1 q12 x1), (growth_grower_girth_r3 g x_1 q12), (growth_grower_girth_r4 g), VR (Ren.emb [(10, 12, 0)]) (I (x1)) (I (x1)), (growth_grower_girth_r5 g w q11 q12 q13 q14 x1 x2), (growth_grower_girth_r6 w x1), (growth_grower_girth_r7 g q11 q12 q13 q14), (growth_grower_girth_r8 x2), (W (100 + x_1.Shoots)) ≠ 0]) (by kernel_rfl) ⟨growth_atAge_fc g.Species.Thick x_1.Age q12 x1 h1, growth_grower_girth_p9 g x_1 q12, ⟨MemAt.same _ (encL_pf cInt_pf _), trivial⟩, selfB_self 9 _ rfl _, growth_grower_inWeather_fc g x1 w q11 q12 q13 q14 x2 h2, growth_grower_girth_p10 w x1, growth_grower_girth_p11 g q11 q12 q13 q14, selfB_self 9 _ rfl _, of_decide_eq_true h3, trivial⟩ (by kernel_rfl)

/- (greenhew/growth.grower).grow -/
noncomputable abbrev growth_grower_grow_i0 (x_1 : XStand) : Hint := (hM (.pointer (some ⟨10, 1, none⟩)) (.pointer (some ⟨104, 1, none⟩)) (A_growth_number 1) (K_growth_number (⟨imin (W (x_1.Age + 1)) 100000, 0, 0, 0⟩ : XStand)) [(10, 104, 0)])
noncomputable abbrev growth_grower_grow_i1 (g : Xgrower) (x_1 : XStand) (w : XWeather) (q11 : Nat) (q12 : Nat) (q13 : Nat) (q14 : Nat) (x1 : Int) : Hint := (hM (I (x1)) (I (x1)) (A_growth_grower_shoots x_1 w) (K_growth_grower_shoots g q11 q12 q13 q14) [(11, 11, 0), (12, 12, 0), (13, 13, 0), (14, 14, 0), (10, 10, 0)])
noncomputable abbrev growth_grower_grow_i2 (x_1 : XStand) (x1 : Int) : Hint := (hM (.pointer (some ⟨10, 2, none⟩)) (.pointer (some ⟨104, 2, none⟩)) (A_growth_number 2) (K_growth_number (⟨imin (W (x_1.Age + 1)) 100000, x1, 0, 0⟩ : XStand)) [(10, 104, 0)])
noncomputable abbrev growth_grower_grow_i3 (g : Xgrower) (x_1 : XStand) (w : XWeather) (q11 : Nat) (q12 : Nat) (q13 : Nat) (q14 : Nat) (x2 : Int) : Hint := (hM (I (x2)) (I (x2)) (A_growth_grower_height x_1 w) (K_growth_grower_height g q11 q12 q13 q14) [(11, 11, 0), (12, 12, 0), (13, 13, 0), (14, 14, 0), (10, 10, 0)])
noncomputable abbrev growth_grower_grow_i4 (x_1 : XStand) (x1 : Int) (x2 : Int) : Hint := (hM (.pointer (some ⟨10, 3, none⟩)) (.pointer (some ⟨104, 3, none⟩)) (A_growth_number 3) (K_growth_number (⟨imin (W (x_1.Age + 1)) 100000, x1, x2, 0⟩ : XStand)) [(10, 104, 0)])
noncomputable abbrev growth_grower_grow_i5 (g : Xgrower) (x_1 : XStand) (w : XWeather) (q11 : Nat) (q12 : Nat) (q13 : Nat) (q14 : Nat) (x3 : Int) : Hint := (hM (I (x3)) (I (x3)) (A_growth_grower_girth x_1 w) (K_growth_grower_girth g q11 q12 q13 q14) [(11, 11, 0), (12, 12, 0), (13, 13, 0), (14, 14, 0), (10, 10, 0)])
abbrev growth_grower_grow_r6 (x_1 : XStand) : Prop := FC P GG 100 (A_growth_number 1) (K_growth_number (⟨imin (W (x_1.Age + 1)) 100000, 0, 0, 0⟩ : XStand)) (.pointer (some ⟨10, 1, none⟩))
abbrev growth_grower_grow_r7 : Prop := VRs (Ren.emb [(10, 104, 0)]) (A_growth_number 1) [.pointer (some ⟨104, 0, none⟩), I (1)]
abbrev growth_grower_grow_r8 (x_1 : XStand) : Prop := MemAt (Ren.emb [(10, 104, 0)]) [I ((⟨imin (W (x_1.Age + 1)) 100000, 0, 0, 0⟩ : XStand).Age), I ((⟨imin (W (x_1.Age + 1)) 100000, 0, 0, 0⟩ : XStand).Shoots), I ((⟨imin (W (x_1.Age + 1)) 100000, 0, 0, 0⟩ : XStand).Height), I ((⟨imin (W (x_1.Age + 1)) 100000, 0, 0, 0⟩ : XStand).Girth)] 0 [I (imin (W (x_1.Age + 1)) 100000), I (0), I (0), I (0)] ∧ True
abbrev growth_grower_grow_r9 : Prop := VR (Ren.emb [(10, 104, 0)]) (.pointer (some ⟨10, 1, none⟩)) (.pointer (some ⟨104, 1, none⟩))
abbrev growth_grower_grow_r10 (g : Xgrower) (x_1 : XStand) (w : XWeather) (q11 : Nat) (q12 : Nat) (q13 : Nat) (q14 : Nat) (x1 : Int) : Prop := FC P GG 97 (A_growth_grower_shoots x_1 w) (K_growth_grower_shoots g q11 q12 q13 q14) (I (x1))
abbrev growth_grower_grow_r11 (x_1 : XStand) (w : XWeather) : Prop := VRs (Ren.emb [(11, 11, 0), (12, 12, 0), (13, 13, 0), (14, 14, 0), (10, 10, 0)]) (A_growth_grower_shoots x_1 w) [.pointer (some ⟨10, 0, none⟩), .agg #[I (x_1.Age), I (x_1.Shoots), I (x_1.Height), I (x_1.Girth)], .agg #[I (w.Light), I (w.Browse), I (w.Mild)]]
abbrev growth_grower_grow_r12 (g : Xgrower) (q11 : Nat) (q12 : Nat) (q13 : Nat) (q14 : Nat) : Prop := MemAt (Ren.emb [(11, 11, 0), (12, 12, 0), (13, 13, 0), (14, 14, 0), (10, 10, 0)]) (encL cInt g.Species.Rise) 0 (encL cInt g.Species.Rise) ∧ MemAt (Ren.emb [(11, 11, 0), (12, 12, 0), (13, 13, 0), (14, 14, 0), (10, 10, 0)]) (encL cInt g.Species.Thick) 0 (encL cInt g.Species.Thick) ∧ MemAt (Ren.emb [(11, 11, 0), (12, 12, 0), (13, 13, 0), (14, 14, 0), (10, 10, 0)]) (encL cXRung g.Species.Ladder) 0 (encL cXRung g.Species.Ladder) ∧ MemAt (Ren.emb [(11, 11, 0), (12, 12, 0), (13, 13, 0), (14, 14, 0), (10, 10, 0)]) (encL cXSpan g.Species.Sprouts) 0 (encL cXSpan g.Species.Sprouts) ∧ MemAt (Ren.emb [(11, 11, 0), (12, 12, 0), (13, 13, 0), (14, 14, 0), (10, 10, 0)]) [.slice (some ⟨11, 0, none⟩) (g.Species.Rise.length) (q11), .slice (some ⟨12, 0, none⟩) (g.Species.Thick.length) (q12), I (g.Species.Top), I (g.Species.Stout), I (g.Species.Shade), I (g.Species.Reach), .slice (some ⟨13, 0, none⟩) (g.Species.Ladder.length) (q13), .slice (some ⟨14, 0, none⟩) (g.Species.Sprouts.length) (q14)] 0 [.slice (some ⟨11, 0, none⟩) (g.Species.Rise.length) (q11), .slice (some ⟨12, 0, none⟩) (g.Species.Thick.length) (q12), I (g.Species.Top), I (g.Species.Stout), I (g.Species.Shade), I (g.Species.Reach), .slice (some ⟨13, 0, none⟩) (g.Species.Ladder.length) (q13), .slice (some ⟨14, 0, none⟩) (g.Species.Sprouts.length) (q14)] ∧ True
abbrev growth_grower_grow_r13 (x1 : Int) : Prop := VR (Ren.emb [(11, 11, 0), (12, 12, 0), (13, 13, 0), (14, 14, 0), (10, 10, 0)]) (I (x1)) (I (x1))
abbrev growth_grower_grow_r14 (x_1 : XStand) (x1 : Int) : Prop := FC P GG 100 (A_growth_number 2) (K_growth_number (⟨imin (W (x_1.Age + 1)) 100000, x1, 0, 0⟩ : XStand)) (.pointer (some ⟨10, 2, none⟩))
abbrev growth_grower_grow_r15 : Prop := VRs (Ren.emb [(10, 104, 0)]) (A_growth_number 2) [.pointer (some ⟨104, 0, none⟩), I (2)]
abbrev growth_grower_grow_r16 (x_1 : XStand) (x1 : Int) : Prop := MemAt (Ren.emb [(10, 104, 0)]) [I ((⟨imin (W (x_1.Age + 1)) 100000, x1, 0, 0⟩ : XStand).Age), I ((⟨imin (W (x_1.Age + 1)) 100000, x1, 0, 0⟩ : XStand).Shoots), I ((⟨imin (W (x_1.Age + 1)) 100000, x1, 0, 0⟩ : XStand).Height), I ((⟨imin (W (x_1.Age + 1)) 100000, x1, 0, 0⟩ : XStand).Girth)] 0 [I (imin (W (x_1.Age + 1)) 100000), I (x1), I (0), I (0)] ∧ True
abbrev growth_grower_grow_r17 : Prop := VR (Ren.emb [(10, 104, 0)]) (.pointer (some ⟨10, 2, none⟩)) (.pointer (some ⟨104, 2, none⟩))
abbrev growth_grower_grow_r18 (g : Xgrower) (x_1 : XStand) (w : XWeather) (q11 : Nat) (q12 : Nat) (q13 : Nat) (q14 : Nat) (x2 : Int) : Prop := FC P GG 98 (A_growth_grower_height x_1 w) (K_growth_grower_height g q11 q12 q13 q14) (I (x2))
abbrev growth_grower_grow_r19 (x_1 : XStand) (w : XWeather) : Prop := VRs (Ren.emb [(11, 11, 0), (12, 12, 0), (13, 13, 0), (14, 14, 0), (10, 10, 0)]) (A_growth_grower_height x_1 w) [.pointer (some ⟨10, 0, none⟩), .agg #[I (x_1.Age), I (x_1.Shoots), I (x_1.Height), I (x_1.Girth)], .agg #[I (w.Light), I (w.Browse), I (w.Mild)]]
abbrev growth_grower_grow_r20 (x2 : Int) : Prop := VR (Ren.emb [(11, 11, 0), (12, 12, 0), (13, 13, 0), (14, 14, 0), (10, 10, 0)]) (I (x2)) (I (x2))
abbrev growth_grower_grow_r21 (x_1 : XStand) (x1 : Int) (x2 : Int) : Prop := FC P GG 100 (A_growth_number 3) (K_growth_number (⟨imin (W (x_1.Age + 1)) 100000, x1, x2, 0⟩ : XStand)) (.pointer (some ⟨10, 3, none⟩))
abbrev growth_grower_grow_r22 : Prop := VRs (Ren.emb [(10, 104, 0)]) (A_growth_number 3) [.pointer (some ⟨104, 0, none⟩), I (3)]
abbrev growth_grower_grow_r23 (x_1 : XStand) (x1 : Int) (x2 : Int) : Prop := MemAt (Ren.emb [(10, 104, 0)]) [I ((⟨imin (W (x_1.Age + 1)) 100000, x1, x2, 0⟩ : XStand).Age), I ((⟨imin (W (x_1.Age + 1)) 100000, x1, x2, 0⟩ : XStand).Shoots), I ((⟨imin (W (x_1.Age + 1)) 100000, x1, x2, 0⟩ : XStand).Height), I ((⟨imin (W (x_1.Age + 1)) 100000, x1, x2, 0⟩ : XStand).Girth)] 0 [I (imin (W (x_1.Age + 1)) 100000), I (x1), I (x2), I (0)] ∧ True
abbrev growth_grower_grow_r24 : Prop := VR (Ren.emb [(10, 104, 0)]) (.pointer (some ⟨10, 3, none⟩)) (.pointer (some ⟨104, 3, none⟩))
abbrev growth_grower_grow_r25 (g : Xgrower) (x_1 : XStand) (w : XWeather) (q11 : Nat) (q12 : Nat) (q13 : Nat) (q14 : Nat) (x3 : Int) : Prop := FC P GG 99 (A_growth_grower_girth x_1 w) (K_growth_grower_girth g q11 q12 q13 q14) (I (x3))
abbrev growth_grower_grow_r26 (x_1 : XStand) (w : XWeather) : Prop := VRs (Ren.emb [(11, 11, 0), (12, 12, 0), (13, 13, 0), (14, 14, 0), (10, 10, 0)]) (A_growth_grower_girth x_1 w) [.pointer (some ⟨10, 0, none⟩), .agg #[I (x_1.Age), I (x_1.Shoots), I (x_1.Height), I (x_1.Girth)], .agg #[I (w.Light), I (w.Browse), I (w.Mild)]]
abbrev growth_grower_grow_r27 (x3 : Int) : Prop := VR (Ren.emb [(11, 11, 0), (12, 12, 0), (13, 13, 0), (14, 14, 0), (10, 10, 0)]) (I (x3)) (I (x3))
theorem growth_grower_grow_p28 (x_1 : XStand) : (growth_grower_grow_r6 x_1) := growth_number_fc_1 (⟨imin (W (x_1.Age + 1)) 100000, 0, 0, 0⟩ : XStand) 1 rfl
theorem growth_grower_grow_p29 : growth_grower_grow_r7 := (.cons _ _ _ _ (.ptr 10 0 ⟨104, 0, 0, 0⟩ rfl) (.cons _ _ _ _ (VR.of_pf rfl) .nil))
theorem growth_grower_grow_p30 (x_1 : XStand) : (growth_grower_grow_r8 x_1) := ⟨MemAt.of (.cons _ _ _ _ (VR.of_pf rfl) (.cons _ _ _ _ (VR.of_pf rfl) (.cons _ _ _ _ (VR.of_pf rfl) (.cons _ _ _ _ (VR.of_pf rfl) .nil)))), trivial⟩
theorem growth_grower_grow_p31 (x_1 : XStand) (w : XWeather) : (growth_grower_grow_r11 x_1 w) := (.cons _ _ _ _ (.ptr 10 0 ⟨10, 0, 0, 0⟩ rfl) (.cons _ _ _ _ (VR.of_pf rfl) (.cons _ _ _ _ (VR.of_pf rfl) .nil)))
theorem growth_grower_grow_p32 (g : Xgrower) (q11 : Nat) (q12 : Nat) (q13 : Nat) (q14 : Nat) : (growth_grower_grow_r12 g q11 q12 q13 q14) := ⟨MemAt.same _ (encL_pf cInt_pf _), MemAt.same _ (encL_pf cInt_pf _), MemAt.same _ (encL_pf cXRung_pf _), MemAt.same _ (encL_pf cXSpan_pf _), MemAt.of (.cons _ _ _ _ (.slc 11 0 _ _ _ ⟨11, 0, 0, 0⟩ rfl (.inl rfl)) (.cons _ _ _ _ (.slc 12 0 _ _ _ ⟨12, 0, 0, 0⟩ rfl (.inl rfl)) (.cons _ _ _ _ (VR.of_pf rfl) (.cons _ _ _ _ (VR.of_pf rfl) (.cons _ _ _ _ (VR.of_pf rfl) (.cons _ _ _ _ (VR.of_pf rfl) (.cons _ _ _ _ (.slc 13 0 _ _ _ ⟨13, 0, 0, 0⟩ rfl (.inl rfl)) (.cons _ _ _ _ (.slc 14 0 _ _ _ ⟨14, 0, 0, 0⟩ rfl (.inl rfl)) .nil)))))))), trivial⟩
theorem growth_grower_grow_p33 (x_1 : XStand) (x1 : Int) : (growth_grower_grow_r14 x_1 x1) := growth_number_fc_2 (⟨imin (W (x_1.Age + 1)) 100000, x1, 0, 0⟩ : XStand) 2 rfl rfl
theorem growth_grower_grow_p34 : growth_grower_grow_r15 := (.cons _ _ _ _ (.ptr 10 0 ⟨104, 0, 0, 0⟩ rfl) (.cons _ _ _ _ (VR.of_pf rfl) .nil))
theorem growth_grower_grow_p35 (x_1 : XStand) (x1 : Int) : (growth_grower_grow_r16 x_1 x1) := ⟨MemAt.of (.cons _ _ _ _ (VR.of_pf rfl) (.cons _ _ _ _ (VR.of_pf rfl) (.cons _ _ _ _ (VR.of_pf rfl) (.cons _ _ _ _ (VR.of_pf rfl) .nil)))), trivial⟩
theorem growth_grower_grow_p36 (x_1 : XStand) (w : XWeather) : (growth_grower_grow_r19 x_1 w) := (.cons _ _ _ _ (.ptr 10 0 ⟨10, 0, 0, 0⟩ rfl) (.cons _ _ _ _ (VR.of_pf rfl) (.cons _ _ _ _ (VR.of_pf rfl) .nil)))
theorem growth_grower_grow_p37 (x_1 : XStand) (x1 : Int) (x2 : Int) : (growth_grower_grow_r21 x_1 x1 x2) := growth_number_fc_3 (⟨imin (W (x_1.Age + 1)) 100000, x1, x2, 0⟩ : XStand) 3 rfl rfl
theorem growth_grower_grow_p38 : growth_grower_grow_r22 := (.cons _ _ _ _ (.ptr 10 0 ⟨104, 0, 0, 0⟩ rfl) (.cons _ _ _ _ (VR.of_pf rfl) .nil))
theorem growth_grower_grow_p39 (x_1 : XStand) (x1 : Int) (x2 : Int) : (growth_grower_grow_r23 x_1 x1 x2) := ⟨MemAt.of (.cons _ _ _ _ (VR.of_pf rfl) (.cons _ _ _ _ (VR.of_pf rfl) (.cons _ _ _ _ (VR.of_pf rfl) (.cons _ _ _ _ (VR.of_pf rfl) .nil)))), trivial⟩
theorem growth_grower_grow_p40 (x_1 : XStand) (w : XWeather) : (growth_grower_grow_r26 x_1 w) := (.cons _ _ _ _ (.ptr 10 0 ⟨10, 0, 0, 0⟩ rfl) (.cons _ _ _ _ (VR.of_pf rfl) (.cons _ _ _ _ (VR.of_pf rfl) .nil)))
abbrev A_growth_grower_grow (x_1 : XStand) (w : XWeather) : List Value := [.pointer (some ⟨10, 0, none⟩), .agg #[I (x_1.Age), I (x_1.Shoots), I (x_1.Height), I (x_1.Girth)], .agg #[I (w.Light), I (w.Browse), I (w.Mild)]]
abbrev K_growth_grower_grow (g : Xgrower) (q11 : Nat) (q12 : Nat) (q13 : Nat) (q14 : Nat) : List (Nat × List Value) := [(11, encL cInt g.Species.Rise), (12, encL cInt g.Species.Thick), (13, encL cXRung g.Species.Ladder), (14, encL cXSpan g.Species.Sprouts), (10, [.slice (some ⟨11, 0, none⟩) (g.Species.Rise.length) (q11), .slice (some ⟨12, 0, none⟩) (g.Species.Thick.length) (q12), I (g.Species.Top), I (g.Species.Stout), I (g.Species.Shade), I (g.Species.Reach), .slice (some ⟨13, 0, none⟩) (g.Species.Ladder.length) (q13), .slice (some ⟨14, 0, none⟩) (g.Species.Sprouts.length) (q14)])]
noncomputable def growth_grower_grow (fu : Nat) (g : Xgrower) (x_1 : XStand) (w : XWeather) : Option XStand :=
  Option.bind (growth_grower_shoots fu g x_1 w) fun x1 =>
  Option.bind (growth_grower_height g x_1 w) fun x2 =>
  Option.bind (growth_grower_girth g x_1 w) fun x3 =>
  some (⟨imin (W (x_1.Age + 1)) 100000, x1, x2, x3⟩ : XStand)
theorem growth_grower_grow_fc (fu : Nat) (g : Xgrower) (x_1 : XStand) (w : XWeather) (q11 q12 q13 q14 : Nat) (r : XStand) (hh : growth_grower_grow fu g x_1 w = some r) : FC P GG 60 [.pointer (some ⟨10, 0, none⟩), .agg #[I (x_1.Age), I (x_1.Shoots), I (x_1.Height), I (x_1.Girth)], .agg #[I (w.Light), I (w.Browse), I (w.Mild)]] [(11, encL cInt g.Species.Rise), (12, encL cInt g.Species.Thick), (13, encL cXRung g.Species.Ladder), (14, encL cXSpan g.Species.Sprouts), (10, [.slice (some ⟨11, 0, none⟩) (g.Species.Rise.length) (q11), .slice (some ⟨12, 0, none⟩) (g.Species.Thick.length) (q12), I (g.Species.Top), I (g.Species.Stout), I (g.Species.Shade), I (g.Species.Reach), .slice (some ⟨13, 0, none⟩) (g.Species.Ladder.length) (q13), .slice (some ⟨14, 0, none⟩) (g.Species.Sprouts.length) (q14)])] (.agg #[I (r.Age), I (r.Shoots), I (r.Height), I (r.Girth)]) := by
  refine FC.of_fsat 38 100 Tryd.func60 (by kernel_rfl) (by kernel_rfl) (by kernel_rfl) ⟨PinL.pf (encL_pf cInt_pf _), PinL.pf (encL_pf cInt_pf _), PinL.pf (encL_pf cXRung_pf _), PinL.pf (encL_pf cXSpan_pf _), PinL.lit (by kernel_rfl), trivial⟩ ?_
  cases h1 : growth_grower_shoots fu g x_1 w with
  | none =>
    have e : growth_grower_grow fu g x_1 w = none := by unfold growth_grower_grow; rw [h1, Option.bind_none]; first | done | rfl
    rw [e] at hh; cases hh
  | some x1 =>
    cases h2 : growth_grower_height g x_1 w with
    | none =>
      have e : growth_grower_grow fu g x_1 w = none := by unfold growth_grower_grow; rw [h1, Option.bind_some, h2, Option.bind_none]; first | done | rfl
      rw [e] at hh; cases hh
    | some x2 =>
      cases h3 : growth_grower_girth g x_1 w with
      | none =>
        have e : growth_grower_grow fu g x_1 w = none := by unfold growth_grower_grow; rw [h1, Option.bind_some, h2, Option.bind_some, h3, Option.bind_none]; first | done | rfl
        rw [e] at hh; cases hh
      | some x3 =>
        have e : growth_grower_grow fu g x_1 w = some (⟨imin (W (x_1.Age + 1)) 100000, x1, x2, x3⟩ : XStand) := by unfold growth_grower_grow; rw [h1, Option.bind_some, h2, Option.bind_some, h3, Option.bind_some]; first | done | rfl
        rw [e] at hh
        have hr := Option.some.inj hh
        rw [← hr]
        exact FSat.done pfT (fuel := 64) (hs := (hR 25 ((growth_grower_grow_i0 x_1) :: (hR 5 ((growth_grower_grow_i1 g x_1 w q11 q12 q13 q14 x1) :: (hR 8 ((growth_grower_grow_i2 x_1 x1) :: (hR 5 ((growth_grower_grow_i3 g x_1 w q11 q12 q13 q14 x2) :: (hR 8 ((growth_grower_grow_i4 x_1 x1 x2) :: (hR 5 ((growth_grower_grow_i5 g x_1 w q11 q12 q13 q14 x3) :: (hR 7 [])))))))))))))) (ss := [.go, .go, .go, .go]) (R := [(growth_grower_grow_r6 x_1), growth_grower_grow_r7, (growth_grower_grow_r8 x_1), growth_grower_grow_r9, (growth_grower_grow_r10 g x_1 w q11 q12 q13 q14 x1), (growth_grower_grow_r11 x_1 w), (growth_grower_grow_r12 g q11 q12 q13 q14), (growth_grower_grow_r13 x1), (growth_grower_grow_r14 x_1 x1), growth_grower_grow_r15, (growth_grower_grow_r16 x_1 x1), growth_grower_grow_r17, (growth_grower_grow_r18 g x_1 w q11 q12 q13 q14 x2), (growth_grower_grow_r19 x_1 w), (growth_grower_grow_r12 g q11 q12 q13 q14), (growth_grower_grow_r20 x2), (growth_grower_grow_r21 x_1 x1 x2), growth_grower_grow_r22, (growth_grower_grow_r23 x_1 x1 x2), growth_grower_grow_r24, (growth_grower_grow_r25 g x_1 w q11 q12 q13 q14 x3), (growth_grower_grow_r26 x_1 w), (growth_grower_grow_r12 g q11 q12 q13 q14), (growth_grower_grow_r27 x3)]) (by kernel_rfl) ⟨growth_grower_grow_p28 x_1, growth_grower_grow_p29, growth_grower_grow_p30 x_1, .ptr 10 1 ⟨104, 0, 0, 0⟩ rfl, growth_grower_shoots_fc fu g x_1 w q11 q12 q13 q14 x1 h1, growth_grower_grow_p31 x_1 w, growth_grower_grow_p32 g q11 q12 q13 q14, selfB_self 9 _ rfl _, growth_grower_grow_p33 x_1 x1, growth_grower_grow_p34, growth_grower_grow_p35 x_1 x1, .ptr 10 2 ⟨104, 0, 0, 0⟩ rfl, growth_grower_height_fc g x_1 w q11 q12 q13 q14 x2 h2, growth_grower_grow_p36 x_1 w, growth_grower_grow_p32 g q11 q12 q13 q14, selfB_self 9 _ rfl _, growth_grower_grow_p37 x_1 x1 x2, growth_grower_grow_p38, growth_grower_grow_p39 x_1 x1 x2, .ptr 10 3 ⟨104, 0, 0, 0⟩ rfl, growth_grower_girth_fc g x_1 w q11 q12 q13 q14 x3 h3, growth_grower_grow_p40 x_1 w, growth_grower_grow_p32 g q11 q12 q13 q14, selfB_self 9 _ rfl _, trivial⟩ (by kernel_rfl)

/- greenhew/growth.Grow -/
noncomputable abbrev growth_Grow_i0 (s : XSpecies) (q10 : Nat) (q11 : Nat) (q12 : Nat) (q13 : Nat) (x1 : Bool) : Hint := (hB (hM (.bool (x1)) (.bool (x1)) (A_growth_speciesIsDefined s q10 q11 q12 q13) (K_growth_speciesIsDefined s) [(10, 10, 0), (11, 11, 0), (12, 12, 0), (13, 13, 0)]) true)
noncomputable abbrev growth_Grow_i1 (s : XSpecies) (x_1 : XStand) (w : XWeather) (q10 : Nat) (q11 : Nat) (q12 : Nat) (q13 : Nat) (x5 : XStand) : Hint := (hM (.agg #[I (x5.Age), I (x5.Shoots), I (x5.Height), I (x5.Girth)]) (.agg #[I (x5.Age), I (x5.Shoots), I (x5.Height), I (x5.Girth)]) (A_growth_grower_grow x_1 w) (K_growth_grower_grow (⟨s⟩ : Xgrower) q10 q11 q12 q13) [(11, 10, 0), (12, 11, 0), (13, 12, 0), (14, 13, 0), (10, 104, 0)])
abbrev growth_Grow_r2 (s : XSpecies) (q10 : Nat) (q11 : Nat) (q12 : Nat) (q13 : Nat) (x1 : Bool) : Prop := FC P GG 57 (A_growth_speciesIsDefined s q10 q11 q12 q13) (K_growth_speciesIsDefined s) (.bool (x1))
abbrev growth_Grow_r3 (s : XSpecies) (q10 : Nat) (q11 : Nat) (q12 : Nat) (q13 : Nat) : Prop := VRs (Ren.emb [(10, 10, 0), (11, 11, 0), (12, 12, 0), (13, 13, 0)]) (A_growth_speciesIsDefined s q10 q11 q12 q13) [.agg #[.slice (some ⟨10, 0, none⟩) (s.Rise.length) (q10), .slice (some ⟨11, 0, none⟩) (s.Thick.length) (q11), I (s.Top), I (s.Stout), I (s.Shade), I (s.Reach), .slice (some ⟨12, 0, none⟩) (s.Ladder.length) (q12), .slice (some ⟨13, 0, none⟩) (s.Sprouts.length) (q13)]]
abbrev growth_Grow_r4 (s : XSpecies) : Prop := MemAt (Ren.emb [(10, 10, 0), (11, 11, 0), (12, 12, 0), (13, 13, 0)]) (encL cInt s.Rise) 0 (encL cInt s.Rise) ∧ MemAt (Ren.emb [(10, 10, 0), (11, 11, 0), (12, 12, 0), (13, 13, 0)]) (encL cInt s.Thick) 0 (encL cInt s.Thick) ∧ MemAt (Ren.emb [(10, 10, 0), (11, 11, 0), (12, 12, 0), (13, 13, 0)]) (encL cXRung s.Ladder) 0 (encL cXRung s.Ladder) ∧ MemAt (Ren.emb [(10, 10, 0), (11, 11, 0), (12, 12, 0), (13, 13, 0)]) (encL cXSpan s.Sprouts) 0 (encL cXSpan s.Sprouts) ∧ True
abbrev growth_Grow_r5 (x1 : Bool) : Prop := VR (Ren.emb [(10, 10, 0), (11, 11, 0), (12, 12, 0), (13, 13, 0)]) (.bool (x1)) (.bool (x1))
abbrev growth_Grow_r6 (x_1 : XStand) : Prop := FC P GG 58 (A_growth_standIsDefined x_1) [] (.bool (growth_standIsDefined x_1))
abbrev growth_Grow_r7 (w : XWeather) : Prop := FC P GG 59 (A_growth_weatherIsDefined w) [] (.bool (growth_weatherIsDefined w))
abbrev growth_Grow_r8 (s : XSpecies) (x_1 : XStand) (w : XWeather) (q10 : Nat) (q11 : Nat) (q12 : Nat) (q13 : Nat) (x5 : XStand) : Prop := FC P GG 60 (A_growth_grower_grow x_1 w) (K_growth_grower_grow (⟨s⟩ : Xgrower) q10 q11 q12 q13) (.agg #[I (x5.Age), I (x5.Shoots), I (x5.Height), I (x5.Girth)])
abbrev growth_Grow_r9 (x_1 : XStand) (w : XWeather) : Prop := VRs (Ren.emb [(11, 10, 0), (12, 11, 0), (13, 12, 0), (14, 13, 0), (10, 104, 0)]) (A_growth_grower_grow x_1 w) [.pointer (some ⟨104, 0, none⟩), .agg #[I (x_1.Age), I (x_1.Shoots), I (x_1.Height), I (x_1.Girth)], .agg #[I (w.Light), I (w.Browse), I (w.Mild)]]
abbrev growth_Grow_r10 (s : XSpecies) (q10 : Nat) (q11 : Nat) (q12 : Nat) (q13 : Nat) : Prop := MemAt (Ren.emb [(11, 10, 0), (12, 11, 0), (13, 12, 0), (14, 13, 0), (10, 104, 0)]) (encL cInt (((⟨s⟩ : Xgrower).Species).Rise)) 0 (encL cInt s.Rise) ∧ MemAt (Ren.emb [(11, 10, 0), (12, 11, 0), (13, 12, 0), (14, 13, 0), (10, 104, 0)]) (encL cInt (((⟨s⟩ : Xgrower).Species).Thick)) 0 (encL cInt s.Thick) ∧ MemAt (Ren.emb [(11, 10, 0), (12, 11, 0), (13, 12, 0), (14, 13, 0), (10, 104, 0)]) (encL cXRung (((⟨s⟩ : Xgrower).Species).Ladder)) 0 (encL cXRung s.Ladder) ∧ MemAt (Ren.emb [(11, 10, 0), (12, 11, 0), (13, 12, 0), (14, 13, 0), (10, 104, 0)]) (encL cXSpan (((⟨s⟩ : Xgrower).Species).Sprouts)) 0 (encL cXSpan s.Sprouts) ∧ MemAt (Ren.emb [(11, 10, 0), (12, 11, 0), (13, 12, 0), (14, 13, 0), (10, 104, 0)]) [.slice (some ⟨11, 0, none⟩) ((((⟨s⟩ : Xgrower).Species).Rise).length) (q10), .slice (some ⟨12, 0, none⟩) ((((⟨s⟩ : Xgrower).Species).Thick).length) (q11), I (((⟨s⟩ : Xgrower).Species).Top), I (((⟨s⟩ : Xgrower).Species).Stout), I (((⟨s⟩ : Xgrower).Species).Shade), I (((⟨s⟩ : Xgrower).Species).Reach), .slice (some ⟨13, 0, none⟩) ((((⟨s⟩ : Xgrower).Species).Ladder).length) (q12), .slice (some ⟨14, 0, none⟩) ((((⟨s⟩ : Xgrower).Species).Sprouts).length) (q13)] 0 [.slice (some ⟨10, 0, none⟩) (s.Rise.length) (q10), .slice (some ⟨11, 0, none⟩) (s.Thick.length) (q11), I (s.Top), I (s.Stout), I (s.Shade), I (s.Reach), .slice (some ⟨12, 0, none⟩) (s.Ladder.length) (q12), .slice (some ⟨13, 0, none⟩) (s.Sprouts.length) (q13)] ∧ True
abbrev growth_Grow_r11 (x5 : XStand) : Prop := VR (Ren.emb [(11, 10, 0), (12, 11, 0), (13, 12, 0), (14, 13, 0), (10, 104, 0)]) (.agg #[I (x5.Age), I (x5.Shoots), I (x5.Height), I (x5.Girth)]) (.agg #[I (x5.Age), I (x5.Shoots), I (x5.Height), I (x5.Girth)])
theorem growth_Grow_p12 (s : XSpecies) (q10 : Nat) (q11 : Nat) (q12 : Nat) (q13 : Nat) : (growth_Grow_r3 s q10 q11 q12 q13) := (.cons _ _ _ _ (.agg _ _ (.cons _ _ _ _ (.slc 10 0 _ _ _ ⟨10, 0, 0, 0⟩ rfl (.inl rfl)) (.cons _ _ _ _ (.slc 11 0 _ _ _ ⟨11, 0, 0, 0⟩ rfl (.inl rfl)) (.cons _ _ _ _ (VR.of_pf rfl) (.cons _ _ _ _ (VR.of_pf rfl) (.cons _ _ _ _ (VR.of_pf rfl) (.cons _ _ _ _ (VR.of_pf rfl) (.cons _ _ _ _ (.slc 12 0 _ _ _ ⟨12, 0, 0, 0⟩ rfl (.inl rfl)) (.cons _ _ _ _ (.slc 13 0 _ _ _ ⟨13, 0, 0, 0⟩ rfl (.inl rfl)) .nil))))))))) .nil)
theorem growth_Grow_p13 (s : XSpecies) : (growth_Grow_r4 s) := ⟨MemAt.same _ (encL_pf cInt_pf _), MemAt.same _ (encL_pf cInt_pf _), MemAt.same _ (encL_pf cXRung_pf _), MemAt.same _ (encL_pf cXSpan_pf _), trivial⟩
theorem growth_Grow_p14 (x_1 : XStand) (w : XWeather) : (growth_Grow_r9 x_1 w) := (.cons _ _ _ _ (.ptr 10 0 ⟨104, 0, 0, 0⟩ rfl) (.cons _ _ _ _ (VR.of_pf rfl) (.cons _ _ _ _ (VR.of_pf rfl) .nil)))
theorem growth_Grow_p15 (s : XSpecies) (q10 : Nat) (q11 : Nat) (q12 : Nat) (q13 : Nat) : (growth_Grow_r10 s q10 q11 q12 q13) := ⟨MemAt.same _ (encL_pf cInt_pf _), MemAt.same _ (encL_pf cInt_pf _), MemAt.same _ (encL_pf cXRung_pf _), MemAt.same _ (encL_pf cXSpan_pf _), MemAt.of (.cons _ _ _ _ (.slc 11 0 _ _ _ ⟨10, 0, 0, 0⟩ rfl (.inl rfl)) (.cons _ _ _ _ (.slc 12 0 _ _ _ ⟨11, 0, 0, 0⟩ rfl (.inl rfl)) (.cons _ _ _ _ (VR.of_pf rfl) (.cons _ _ _ _ (VR.of_pf rfl) (.cons _ _ _ _ (VR.of_pf rfl) (.cons _ _ _ _ (VR.of_pf rfl) (.cons _ _ _ _ (.slc 13 0 _ _ _ ⟨12, 0, 0, 0⟩ rfl (.inl rfl)) (.cons _ _ _ _ (.slc 14 0 _ _ _ ⟨13, 0, 0, 0⟩ rfl (.inl rfl)) .nil)))))))), trivial⟩
noncomputable abbrev growth_Grow_i16 (s : XSpecies) (q10 : Nat) (q11 : Nat) (q12 : Nat) (q13 : Nat) (x1 : Bool) : Hint := (hB (hM (.bool (x1)) (.bool (x1)) (A_growth_speciesIsDefined s q10 q11 q12 q13) (K_growth_speciesIsDefined s) [(10, 10, 0), (11, 11, 0), (12, 12, 0), (13, 13, 0)]) false)
abbrev A_growth_Grow (s : XSpecies) (x_1 : XStand) (w : XWeather) (q10 : Nat) (q11 : Nat) (q12 : Nat) (q13 : Nat) : List Value := [.agg #[.slice (some ⟨10, 0, none⟩) (s.Rise.length) (q10), .slice (some ⟨11, 0, none⟩) (s.Thick.length) (q11), I (s.Top), I (s.Stout), I (s.Shade), I (s.Reach), .slice (some ⟨12, 0, none⟩) (s.Ladder.length) (q12), .slice (some ⟨13, 0, none⟩) (s.Sprouts.length) (q13)], .agg #[I (x_1.Age), I (x_1.Shoots), I (x_1.Height), I (x_1.Girth)], .agg #[I (w.Light), I (w.Browse), I (w.Mild)]]
abbrev K_growth_Grow (s : XSpecies) : List (Nat × List Value) := [(10, encL cInt s.Rise), (11, encL cInt s.Thick), (12, encL cXRung s.Ladder), (13, encL cXSpan s.Sprouts)]
noncomputable def growth_Grow (fu : Nat) (s : XSpecies) (x_1 : XStand) (w : XWeather) : Option (XStand × Int) :=
  Option.bind (growth_speciesIsDefined fu s) fun x1 =>
  bif x1 then (bif growth_standIsDefined x_1 then (bif growth_weatherIsDefined w then (Option.bind (growth_grower_grow fu (⟨s⟩ : Xgrower) x_1 w) fun x5 =>
        some (x5, 0))
      else some ((⟨0, 0, 0, 0⟩ : XStand), 2))
    else some ((⟨0, 0, 0, 0⟩ : XStand), 2))
  else some ((⟨0, 0, 0, 0⟩ : XStand), 2)
theorem growth_Grow_fc (fu : Nat) (s : XSpecies) (x_1 : XStand) (w : XWeather) (q10 q11 q12 q13 : Nat) (r : XStand × Int) (hh : growth_Grow fu s x_1 w = some r) : FC P GG 19 [.agg #[.slice (some ⟨10, 0, none⟩) (s.Rise.length) (q10), .slice (some ⟨11, 0, none⟩) (s.Thick.length) (q11), I (s.Top), I (s.Stout), I (s.Shade), I (s.Reach), .slice (some ⟨12, 0, none⟩) (s.Ladder.length) (q12), .slice (some ⟨13, 0, none⟩) (s.Sprouts.length) (q13)], .agg #[I (x_1.Age), I (x_1.Shoots), I (x_1.Height), I (x_1.Girth)], .agg #[I (w.Light), I (w.Browse), I (w.Mild)]] [(10, encL cInt s.Rise), (11, encL cInt s.Thick), (12, encL cXRung s.Ladder), (13, encL cXSpan s.Sprouts)] (.tuple #[.agg #[I (r.1.Age), I (r.1.Shoots), I (r.1.Height), I (r.1.Girth)], I (r.2)]) := by
  refine FC.of_fsat 28 100 Tryd.func19 (by kernel_rfl) (by kernel_rfl) (by kernel_rfl) ⟨PinL.pf (encL_pf cInt_pf _), PinL.pf (encL_pf cInt_pf _), PinL.pf (encL_pf cXRung_pf _), PinL.pf (encL_pf cXSpan_pf _), trivial⟩ ?_
  cases h1 : growth_speciesIsDefined fu s with
  | none =>
    have e : growth_Grow fu s x_1 w = none := by unfold growth_Grow; rw [h1, Option.bind_none]; first | done | rfl
    rw [e] at hh; cases hh
  | some x1 =>
    rcases Bool.eq_false_or_eq_true (x1) with h2 | h2
    · skip
      rcases Bool.eq_false_or_eq_true (growth_standIsDefined x_1) with h3 | h3
      · skip
        rcases Bool.eq_false_or_eq_true (growth_weatherIsDefined w) with h4 | h4
        · skip
          cases h5 : growth_grower_grow fu (⟨s⟩ : Xgrower) x_1 w with
          | none =>
            have e : growth_Grow fu s x_1 w = none := by unfold growth_Grow; rw [h1, Option.bind_some, h2, cond_true, h3, cond_true, h4, cond_true, h5, Option.bind_none]; first | done | rfl
            rw [e] at hh; cases hh
          | some x5 =>
            have e : growth_Grow fu s x_1 w = some (x5, 0) := by unfold growth_Grow; rw [h1, Option.bind_some, h2, cond_true, h3, cond_true, h4, cond_true, h5, Option.bind_some]; first | done | rfl
            rw [e] at hh
            have hr := Option.some.inj hh
            rw [← hr]
            exact FSat.done pfT (fuel := 17) (hs := (hR 6 ((growth_Grow_i0 s q10 q11 q12 q13 x1) :: hE :: hE :: hE :: (hB (hC (.bool (growth_standIsDefined x_1))) true) :: (hR 4 ((hB (hC (.bool (growth_weatherIsDefined w))) true) :: (hR 8 [(growth_Grow_i1 s x_1 w q10 q11 q12 q13 x5), hE, hE])))))) (ss := []) (R := [(growth_Grow_r2 s q10 q11 q12 q13 x1), (growth_Grow_r3 s q10 q11 q12 q13), (growth_Grow_r4 s), (growth_Grow_r5 x1), (x1) = true, (growth_Grow_r6 x_1), (growth_standIsDefined x_1) = true, (growth_Grow_r7 w), (growth_weatherIsDefined w) = true, (growth_Grow_r8 s x_1 w q10 q11 q12 q13 x5), (growth_Grow_r9 x_1 w), (growth_Grow_r10 s q10 q11 q12 q13), (growth_Grow_r11 x5)]) (by kernel_rfl) ⟨growth_speciesIsDefined_fc fu s q10 q11 q12 q13 x1 h1, growth_Grow_p12 s q10 q11 q12 q13, growth_Grow_p13 s, selfB_self 9 _ rfl _, h2, growth_standIsDefined_fc x_1, h3, growth_weatherIsDefined_fc w, h4, growth_grower_grow_fc fu (⟨s⟩ : Xgrower) x_1 w q10 q11 q12 q13 x5 h5, growth_Grow_p14 x_1 w, growth_Grow_p15 s q10 q11 q12 q13, selfB_self 9 _ rfl _, trivial⟩ (by kernel_rfl)
        · skip
          have e : growth_Grow fu s x_1 w = some ((⟨0, 0, 0, 0⟩ : XStand), 2) := by unfold growth_Grow; rw [h1, Option.bind_some, h2, cond_true, h3, cond_true, h4, cond_false]; first | done | rfl
          rw [e] at hh
          have hr := Option.some.inj hh
          rw [← hr]
          exact FSat.done pfT (fuel := 14) (hs := (hR 6 ((growth_Grow_i0 s q10 q11 q12 q13 x1) :: hE :: hE :: hE :: (hB (hC (.bool (growth_standIsDefined x_1))) true) :: (hR 4 ((hB (hC (.bool (growth_weatherIsDefined w))) false) :: (hR 5 [])))))) (ss := []) (R := [(growth_Grow_r2 s q10 q11 q12 q13 x1), (growth_Grow_r3 s q10 q11 q12 q13), (growth_Grow_r4 s), (growth_Grow_r5 x1), (x1) = true, (growth_Grow_r6 x_1), (growth_standIsDefined x_1) = true, (growth_Grow_r7 w), (growth_weatherIsDefined w) = false]) (by kernel_rfl) ⟨growth_speciesIsDefined_fc fu s q10 q11 q12 q13 x1 h1, growth_Grow_p12 s q10 q11 q12 q13, growth_Grow_p13 s, selfB_self 9 _ rfl _, h2, growth_standIsDefined_fc x_1, h3, growth_weatherIsDefined_fc w, h4, trivial⟩ (by kernel_rfl)
      · skip
        have e : growth_Grow fu s x_1 w = some ((⟨0, 0, 0, 0⟩ : XStand), 2) := by unfold growth_Grow; rw [h1, Option.bind_some, h2, cond_true, h3, cond_false]; first | done | rfl
        rw [e] at hh
        have hr := Option.some.inj hh
        rw [← hr]
        exact FSat.done pfT (fuel := 14) (hs := (hR 6 ((growth_Grow_i0 s q10 q11 q12 q13 x1) :: hE :: hE :: hE :: (hB (hC (.bool (growth_standIsDefined x_1))) false) :: (hR 7 [])))) (ss := []) (R := [(growth_Grow_r2 s q10 q11 q12 q13 x1), (growth_Grow_r3 s q10 q11 q12 q13), (growth_Grow_r4 s), (growth_Grow_r5 x1), (x1) = true, (growth_Grow_r6 x_1), (growth_standIsDefined x_1) = false]) (by kernel_rfl) ⟨growth_speciesIsDefined_fc fu s q10 q11 q12 q13 x1 h1, growth_Grow_p12 s q10 q11 q12 q13, growth_Grow_p13 s, selfB_self 9 _ rfl _, h2, growth_standIsDefined_fc x_1, h3, trivial⟩ (by kernel_rfl)
    · skip
      have e : growth_Grow fu s x_1 w = some ((⟨0, 0, 0, 0⟩ : XStand), 2) := by unfold growth_Grow; rw [h1, Option.bind_some, h2, cond_false]; first | done | rfl
      rw [e] at hh
      have hr := Option.some.inj hh
      rw [← hr]
      exact FSat.done pfT (fuel := 14) (hs := (hR 6 ((growth_Grow_i16 s q10 q11 q12 q13 x1) :: (hR 8 [])))) (ss := []) (R := [(growth_Grow_r2 s q10 q11 q12 q13 x1), (growth_Grow_r3 s q10 q11 q12 q13), (growth_Grow_r4 s), (growth_Grow_r5 x1), (x1) = false]) (by kernel_rfl) ⟨growth_speciesIsDefined_fc fu s q10 q11 q12 q13 x1 h1, growth_Grow_p12 s q10 q11 q12 q13, growth_Grow_p13 s, selfB_self 9 _ rfl _, h2, trivial⟩ (by kernel_rfl)

/- greenhew/greenhewlaw02.After -/
noncomputable abbrev law02_After_i0 (s : XSpecies) (x_1 : XStand) : Hint := (hL (.agg #[I ((at_ zXSpan s.Sprouts (imin x_1.Age (W (((s.Sprouts.length : Nat) : Int) - 1)))).Low), I ((at_ zXSpan s.Sprouts (imin x_1.Age (W (((s.Sprouts.length : Nat) : Int) - 1)))).High)]))
noncomputable abbrev law02_After_i1 (s : XSpecies) (x_1 : XStand) (t_3 : XTrue) : Hint := (hC (I (law02_between (at_ zXSpan s.Sprouts (imin x_1.Age (W (((s.Sprouts.length : Nat) : Int) - 1)))) t_3.Sprouts)))
noncomputable abbrev law02_After_i2 (q : XSeason) (t_3 : XTrue) : Hint := (hC (.agg #[I ((law02_weather q t_3).Light), I ((law02_weather q t_3).Browse), I ((law02_weather q t_3).Mild)]))
noncomputable abbrev law02_After_i3 (s : XSpecies) (x_1 : XStand) (q : XSeason) (t_3 : XTrue) (q10 : Nat) (q11 : Nat) (q12 : Nat) (q13 : Nat) (x3 : XStand × Int) : Hint := (hM (.tuple #[.agg #[I (x3.1.Age), I (x3.1.Shoots), I (x3.1.Height), I (x3.1.Girth)], I (x3.2)]) (.tuple #[.agg #[I (x3.1.Age), I (x3.1.Shoots), I (x3.1.Height), I (x3.1.Girth)], I (x3.2)]) (A_growth_Grow s (⟨0, law02_between (at_ zXSpan s.Sprouts (imin x_1.Age (W (((s.Sprouts.length : Nat) : Int) - 1)))) t_3.Sprouts, 0, 0⟩ : XStand) (law02_weather q t_3) q10 q11 q12 q13) (K_growth_Grow s) [(10, 10, 0), (11, 11, 0), (12, 12, 0), (13, 13, 0)])
abbrev law02_After_r4 (s : XSpecies) (x_1 : XStand) : Prop := 0 ≤ (imin x_1.Age (W (((s.Sprouts.length : Nat) : Int) - 1))) ∧ (imin x_1.Age (W (((s.Sprouts.length : Nat) : Int) - 1))) < ((s.Sprouts.length : Nat) : Int)
abbrev law02_After_r5 (s : XSpecies) (x_1 : XStand) : Prop := RowLd P 56 (encL cXSpan s.Sprouts) (0 + (imin x_1.Age (W (((s.Sprouts.length : Nat) : Int) - 1))).toNat * 2) (.agg #[I ((at_ zXSpan s.Sprouts (imin x_1.Age (W (((s.Sprouts.length : Nat) : Int) - 1)))).Low), I ((at_ zXSpan s.Sprouts (imin x_1.Age (W (((s.Sprouts.length : Nat) : Int) - 1)))).High)])
abbrev law02_After_r6 (s : XSpecies) (x_1 : XStand) (t_3 : XTrue) : Prop := FC P GG 74 (A_law02_between (at_ zXSpan s.Sprouts (imin x_1.Age (W (((s.Sprouts.length : Nat) : Int) - 1)))) t_3.Sprouts) [] (I (law02_between (at_ zXSpan s.Sprouts (imin x_1.Age (W (((s.Sprouts.length : Nat) : Int) - 1)))) t_3.Sprouts))
abbrev law02_After_r7 (q : XSeason) (t_3 : XTrue) : Prop := FC P GG 76 (A_law02_weather q t_3) [] (.agg #[I ((law02_weather q t_3).Light), I ((law02_weather q t_3).Browse), I ((law02_weather q t_3).Mild)])
abbrev law02_After_r8 (s : XSpecies) (x_1 : XStand) (q : XSeason) (t_3 : XTrue) (q10 : Nat) (q11 : Nat) (q12 : Nat) (q13 : Nat) (x3 : XStand × Int) : Prop := FC P GG 19 (A_growth_Grow s (⟨0, law02_between (at_ zXSpan s.Sprouts (imin x_1.Age (W (((s.Sprouts.length : Nat) : Int) - 1)))) t_3.Sprouts, 0, 0⟩ : XStand) (law02_weather q t_3) q10 q11 q12 q13) (K_growth_Grow s) (.tuple #[.agg #[I (x3.1.Age), I (x3.1.Shoots), I (x3.1.Height), I (x3.1.Girth)], I (x3.2)])
abbrev law02_After_r9 (s : XSpecies) (x_1 : XStand) (q : XSeason) (t_3 : XTrue) (q10 : Nat) (q11 : Nat) (q12 : Nat) (q13 : Nat) : Prop := VRs (Ren.emb [(10, 10, 0), (11, 11, 0), (12, 12, 0), (13, 13, 0)]) (A_growth_Grow s (⟨0, law02_between (at_ zXSpan s.Sprouts (imin x_1.Age (W (((s.Sprouts.length : Nat) : Int) - 1)))) t_3.Sprouts, 0, 0⟩ : XStand) (law02_weather q t_3) q10 q11 q12 q13) [.agg #[.slice (some ⟨10, 0, none⟩) (s.Rise.length) (q10), .slice (some ⟨11, 0, none⟩) (s.Thick.length) (q11), I (s.Top), I (s.Stout), I (s.Shade), I (s.Reach), .slice (some ⟨12, 0, none⟩) (s.Ladder.length) (q12), .slice (some ⟨13, 0, none⟩) (s.Sprouts.length) (q13)], .agg #[I (0), I (law02_between (at_ zXSpan s.Sprouts (imin x_1.Age (W (((s.Sprouts.length : Nat) : Int) - 1)))) t_3.Sprouts), I (0), I (0)], .agg #[I ((law02_weather q t_3).Light), I ((law02_weather q t_3).Browse), I ((law02_weather q t_3).Mild)]]
abbrev law02_After_r10 (s : XSpecies) : Prop := MemAt (Ren.emb [(10, 10, 0), (11, 11, 0), (12, 12, 0), (13, 13, 0)]) (encL cInt s.Rise) 0 (encL cInt s.Rise) ∧ MemAt (Ren.emb [(10, 10, 0), (11, 11, 0), (12, 12, 0), (13, 13, 0)]) (encL cInt s.Thick) 0 (encL cInt s.Thick) ∧ MemAt (Ren.emb [(10, 10, 0), (11, 11, 0), (12, 12, 0), (13, 13, 0)]) (encL cXRung s.Ladder) 0 (encL cXRung s.Ladder) ∧ MemAt (Ren.emb [(10, 10, 0), (11, 11, 0), (12, 12, 0), (13, 13, 0)]) (encL cXSpan s.Sprouts) 0 (encL cXSpan s.Sprouts) ∧ True
abbrev law02_After_r11 (x3 : XStand × Int) : Prop := VR (Ren.emb [(10, 10, 0), (11, 11, 0), (12, 12, 0), (13, 13, 0)]) (.tuple #[.agg #[I (x3.1.Age), I (x3.1.Shoots), I (x3.1.Height), I (x3.1.Girth)], I (x3.2)]) (.tuple #[.agg #[I (x3.1.Age), I (x3.1.Shoots), I (x3.1.Height), I (x3.1.Girth)], I (x3.2)])
theorem law02_After_p12 (s : XSpecies) (x_1 : XStand) (t_3 : XTrue) : (law02_After_r6 s x_1 t_3) := law02_between_fc (at_ zXSpan s.Sprouts (imin x_1.Age (W (((s.Sprouts.length : Nat) : Int) - 1)))) t_3.Sprouts
theorem law02_After_p13 (s : XSpecies) (x_1 : XStand) (q : XSeason) (t_3 : XTrue) (q10 : Nat) (q11 : Nat) (q12 : Nat) (q13 : Nat) : (law02_After_r9 s x_1 q t_3 q10 q11 q12 q13) := (.cons _ _ _ _ (.agg _ _ (.cons _ _ _ _ (.slc 10 0 _ _ _ ⟨10, 0, 0, 0⟩ rfl (.inl rfl)) (.cons _ _ _ _ (.slc 11 0 _ _ _ ⟨11, 0, 0, 0⟩ rfl (.inl rfl)) (.cons _ _ _ _ (VR.of_pf rfl) (.cons _ _ _ _ (VR.of_pf rfl) (.cons _ _ _ _ (VR.of_pf rfl) (.cons _ _ _ _ (VR.of_pf rfl) (.cons _ _ _ _ (.slc 12 0 _ _ _ ⟨12, 0, 0, 0⟩ rfl (.inl rfl)) (.cons _ _ _ _ (.slc 13 0 _ _ _ ⟨13, 0, 0, 0⟩ rfl (.inl rfl)) .nil))))))))) (.cons _ _ _ _ (VR.of_pf rfl) (.cons _ _ _ _ (VR.of_pf rfl) .nil)))
theorem law02_After_p14 (s : XSpecies) : (law02_After_r10 s) := ⟨MemAt.same _ (encL_pf cInt_pf _), MemAt.same _ (encL_pf cInt_pf _), MemAt.same _ (encL_pf cXRung_pf _), MemAt.same _ (encL_pf cXSpan_pf _), trivial⟩
noncomputable abbrev law02_After_i15 (s : XSpecies) (x_1 : XStand) (q : XSeason) (t_3 : XTrue) (q10 : Nat) (q11 : Nat) (q12 : Nat) (q13 : Nat) (x2 : XStand × Int) : Hint := (hM (.tuple #[.agg #[I (x2.1.Age), I (x2.1.Shoots), I (x2.1.Height), I (x2.1.Girth)], I (x2.2)]) (.tuple #[.agg #[I (x2.1.Age), I (x2.1.Shoots), I (x2.1.Height), I (x2.1.Girth)], I (x2.2)]) (A_growth_Grow s x_1 (law02_weather q t_3) q10 q11 q12 q13) (K_growth_Grow s) [(10, 10, 0), (11, 11, 0), (12, 12, 0), (13, 13, 0)])
abbrev law02_After_r16 (s : XSpecies) (x_1 : XStand) (q : XSeason) (t_3 : XTrue) (q10 : Nat) (q11 : Nat) (q12 : Nat) (q13 : Nat) (x2 : XStand × Int) : Prop := FC P GG 19 (A_growth_Grow s x_1 (law02_weather q t_3) q10 q11 q12 q13) (K_growth_Grow s) (.tuple #[.agg #[I (x2.1.Age), I (x2.1.Shoots), I (x2.1.Height), I (x2.1.Girth)], I (x2.2)])
abbrev law02_After_r17 (s : XSpecies) (x_1 : XStand) (q : XSeason) (t_3 : XTrue) (q10 : Nat) (q11 : Nat) (q12 : Nat) (q13 : Nat) : Prop := VRs (Ren.emb [(10, 10, 0), (11, 11, 0), (12, 12, 0), (13, 13, 0)]) (A_growth_Grow s x_1 (law02_weather q t_3) q10 q11 q12 q13) [.agg #[.slice (some ⟨10, 0, none⟩) (s.Rise.length) (q10), .slice (some ⟨11, 0, none⟩) (s.Thick.length) (q11), I (s.Top), I (s.Stout), I (s.Shade), I (s.Reach), .slice (some ⟨12, 0, none⟩) (s.Ladder.length) (q12), .slice (some ⟨13, 0, none⟩) (s.Sprouts.length) (q13)], .agg #[I (x_1.Age), I (x_1.Shoots), I (x_1.Height), I (x_1.Girth)], .agg #[I ((law02_weather q t_3).Light), I ((law02_weather q t_3).Browse), I ((law02_weather q t_3).Mild)]]
abbrev law02_After_r18 (x2 : XStand × Int) : Prop := VR (Ren.emb [(10, 10, 0), (11, 11, 0), (12, 12, 0), (13, 13, 0)]) (.tuple #[.agg #[I (x2.1.Age), I (x2.1.Shoots), I (x2.1.Height), I (x2.1.Girth)], I (x2.2)]) (.tuple #[.agg #[I (x2.1.Age), I (x2.1.Shoots), I (x2.1.Height), I (x2.1.Girth)], I (x2.2)])
theorem law02_After_p19 (s : XSpecies) (x_1 : XStand) (q : XSeason) (t_3 : XTrue) (q10 : Nat) (q11 : Nat) (q12 : Nat) (q13 : Nat) : (law02_After_r17 s x_1 q t_3 q10 q11 q12 q13) := (.cons _ _ _ _ (.agg _ _ (.cons _ _ _ _ (.slc 10 0 _ _ _ ⟨10, 0, 0, 0⟩ rfl (.inl rfl)) (.cons _ _ _ _ (.slc 11 0 _ _ _ ⟨11, 0, 0, 0⟩ rfl (.inl rfl)) (.cons _ _ _ _ (VR.of_pf rfl) (.cons _ _ _ _ (VR.of_pf rfl) (.cons _ _ _ _ (VR.of_pf rfl) (.cons _ _ _ _ (VR.of_pf rfl) (.cons _ _ _ _ (.slc 12 0 _ _ _ ⟨12, 0, 0, 0⟩ rfl (.inl rfl)) (.cons _ _ _ _ (.slc 13 0 _ _ _ ⟨13, 0, 0, 0⟩ rfl (.inl rfl)) .nil))))))))) (.cons _ _ _ _ (VR.of_pf rfl) (.cons _ _ _ _ (VR.of_pf rfl) .nil)))
abbrev A_law02_After (s : XSpecies) (x_1 : XStand) (q : XSeason) (t_3 : XTrue) (q10 : Nat) (q11 : Nat) (q12 : Nat) (q13 : Nat) : List Value := [.agg #[.slice (some ⟨10, 0, none⟩) (s.Rise.length) (q10), .slice (some ⟨11, 0, none⟩) (s.Thick.length) (q11), I (s.Top), I (s.Stout), I (s.Shade), I (s.Reach), .slice (some ⟨12, 0, none⟩) (s.Ladder.length) (q12), .slice (some ⟨13, 0, none⟩) (s.Sprouts.length) (q13)], .agg #[I (x_1.Age), I (x_1.Shoots), I (x_1.Height), I (x_1.Girth)], .agg #[I (q.Light.Low), I (q.Light.High), I (q.Browse.Low), I (q.Browse.High), I (q.Mild.Low), I (q.Mild.High), .bool (q.Cut)], .agg #[I (t_3.Light), I (t_3.Browse), I (t_3.Mild), I (t_3.Sprouts)]]
abbrev K_law02_After (s : XSpecies) : List (Nat × List Value) := [(10, encL cInt s.Rise), (11, encL cInt s.Thick), (12, encL cXRung s.Ladder), (13, encL cXSpan s.Sprouts)]
noncomputable def law02_After (fu : Nat) (s : XSpecies) (x_1 : XStand) (q : XSeason) (t_3 : XTrue) : Option (XStand × Int) :=
  bif q.Cut then (bif decide (0 ≤ (imin x_1.Age (W (((s.Sprouts.length : Nat) : Int) - 1))) ∧ (imin x_1.Age (W (((s.Sprouts.length : Nat) : Int) - 1))) < ((s.Sprouts.length : Nat) : Int)) then (Option.bind (growth_Grow fu s (⟨0, law02_between (at_ zXSpan s.Sprouts (imin x_1.Age (W (((s.Sprouts.length : Nat) : Int) - 1)))) t_3.Sprouts, 0, 0⟩ : XStand) (law02_weather q t_3)) fun x3 =>
    some (x3.1, x3.2)) else none)
  else (Option.bind (growth_Grow fu s x_1 (law02_weather q t_3)) fun x2 =>
    some (x2.1, x2.2))
theorem law02_After_fc (fu : Nat) (s : XSpecies) (x_1 : XStand) (q : XSeason) (t_3 : XTrue) (q10 q11 q12 q13 : Nat) (r : XStand × Int) (hh : law02_After fu s x_1 q t_3 = some r) : FC P GG 39 [.agg #[.slice (some ⟨10, 0, none⟩) (s.Rise.length) (q10), .slice (some ⟨11, 0, none⟩) (s.Thick.length) (q11), I (s.Top), I (s.Stout), I (s.Shade), I (s.Reach), .slice (some ⟨12, 0, none⟩) (s.Ladder.length) (q12), .slice (some ⟨13, 0, none⟩) (s.Sprouts.length) (q13)], .agg #[I (x_1.Age), I (x_1.Shoots), I (x_1.Height), I (x_1.Girth)], .agg #[I (q.Light.Low), I (q.Light.High), I (q.Browse.Low), I (q.Browse.High), I (q.Mild.Low), I (q.Mild.High), .bool (q.Cut)], .agg #[I (t_3.Light), I (t_3.Browse), I (t_3.Mild), I (t_3.Sprouts)]] [(10, encL cInt s.Rise), (11, encL cInt s.Thick), (12, encL cXRung s.Ladder), (13, encL cXSpan s.Sprouts)] (.tuple #[.agg #[I (r.1.Age), I (r.1.Shoots), I (r.1.Height), I (r.1.Girth)], I (r.2)]) := by
  refine FC.of_fsat 35 100 Tryd.func39 (by kernel_rfl) (by kernel_rfl) (by kernel_rfl) ⟨PinL.pf (encL_pf cInt_pf _), PinL.pf (encL_pf cInt_pf _), PinL.pf (encL_pf cXRung_pf _), PinL.pf (encL_pf cXSpan_pf _), trivial⟩ ?_
  rcases Bool.eq_false_or_eq_true (q.Cut) with h1 | h1
  · skip
    rcases Bool.eq_false_or_eq_true (decide (0 ≤ (imin x_1.Age (W (((s.Sprouts.length : Nat) : Int) - 1))) ∧ (imin x_1.Age (W (((s.Sprouts.length : Nat) : Int) - 1))) < ((s.Sprouts.length : Nat) : Int))) with h2 | h2
    rotate_left
    · skip
      have e : law02_After fu s x_1 q t_3 = none := by unfold law02_After; rw [h1, cond_true, h2, cond_false]; first | done | rfl
      rw [e] at hh; cases hh
    · skip
      cases h3 : growth_Grow fu s (⟨0, law02_between (at_ zXSpan s.Sprouts (imin x_1.Age (W (((s.Sprouts.length : Nat) : Int) - 1)))) t_3.Sprouts, 0, 0⟩ : XStand) (law02_weather q t_3) with
      | none =>
        have e : law02_After fu s x_1 q t_3 = none := by unfold law02_After; rw [h1, cond_true, h2, cond_true, h3, Option.bind_none]; first | done | rfl
        rw [e] at hh; cases hh
      | some x3 =>
        have e : law02_After fu s x_1 q t_3 = some (x3.1, x3.2) := by unfold law02_After; rw [h1, cond_true, h2, cond_true, h3, Option.bind_some]; first | done | rfl
        rw [e] at hh
        have hr := Option.some.inj hh
        rw [← hr]
        exact FSat.done pfT (fuel := 15) (hs := (hR 7 (hT :: (hR 9 (hX :: (law02_After_i0 s x_1) :: hE :: hE :: (law02_After_i1 s x_1 t_3) :: (hR 6 ((law02_After_i2 q t_3) :: (law02_After_i3 s x_1 q t_3 q10 q11 q12 q13 x3) :: (hR 4 [])))))))) (ss := []) (R := [(q.Cut) = true, (law02_After_r4 s x_1), (law02_After_r5 s x_1), (law02_After_r6 s x_1 t_3), (law02_After_r7 q t_3), (law02_After_r8 s x_1 q t_3 q10 q11 q12 q13 x3), (law02_After_r9 s x_1 q t_3 q10 q11 q12 q13), (law02_After_r10 s), (law02_After_r11 x3)]) (by kernel_rfl) ⟨h1, of_decide_eq_true h2, RowLd.elem cXSpan_len _ (.inl ⟨_, rfl⟩) rfl rfl _ _ (of_decide_eq_true h2), law02_After_p12 s x_1 t_3, law02_weather_fc q t_3, growth_Grow_fc fu s (⟨0, law02_between (at_ zXSpan s.Sprouts (imin x_1.Age (W (((s.Sprouts.length : Nat) : Int) - 1)))) t_3.Sprouts, 0, 0⟩ : XStand) (law02_weather q t_3) q10 q11 q12 q13 x3 h3, law02_After_p13 s x_1 q t_3 q10 q11 q12 q13, law02_After_p14 s, selfB_self 9 _ rfl _, trivial⟩ (by kernel_rfl)
  · skip
    cases h2 : growth_Grow fu s x_1 (law02_weather q t_3) with
    | none =>
      have e : law02_After fu s x_1 q t_3 = none := by unfold law02_After; rw [h1, cond_false, h2, Option.bind_none]; first | done | rfl
      rw [e] at hh; cases hh
    | some x2 =>
      have e : law02_After fu s x_1 q t_3 = some (x2.1, x2.2) := by unfold law02_After; rw [h1, cond_false, h2, Option.bind_some]; first | done | rfl
      rw [e] at hh
      have hr := Option.some.inj hh
      rw [← hr]
      exact FSat.done pfT (fuel := 15) (hs := (hR 7 (hF :: (hR 4 ((law02_After_i2 q t_3) :: (law02_After_i15 s x_1 q t_3 q10 q11 q12 q13 x2) :: (hR 4 [])))))) (ss := []) (R := [(q.Cut) = false, (law02_After_r7 q t_3), (law02_After_r16 s x_1 q t_3 q10 q11 q12 q13 x2), (law02_After_r17 s x_1 q t_3 q10 q11 q12 q13), (law02_After_r10 s), (law02_After_r18 x2)]) (by kernel_rfl) ⟨h1, law02_weather_fc q t_3, growth_Grow_fc fu s x_1 (law02_weather q t_3) q10 q11 q12 q13 x2 h2, law02_After_p19 s x_1 q t_3 q10 q11 q12 q13, law02_After_p14 s, selfB_self 9 _ rfl _, trivial⟩ (by kernel_rfl)

/- greenhew/growth.boxIsDefined -/
abbrev growth_boxIsDefined_r0 (b : XBox) : Prop := FC P GG 58 (A_growth_standIsDefined b.Low) [] (.bool (growth_standIsDefined b.Low))
abbrev growth_boxIsDefined_r1 (b : XBox) : Prop := FC P GG 58 (A_growth_standIsDefined b.High) [] (.bool (growth_standIsDefined b.High))
abbrev A_growth_boxIsDefined (b : XBox) : List Value := [.agg #[I (b.Low.Age), I (b.Low.Shoots), I (b.Low.Height), I (b.Low.Girth), I (b.High.Age), I (b.High.Shoots), I (b.High.Height), I (b.High.Girth)]]
noncomputable def growth_boxIsDefined (b : XBox) : Bool :=
  bif growth_standIsDefined b.Low then (bif growth_standIsDefined b.High then (bif b.Low.Age == b.High.Age then (bif decide (b.Low.Shoots ≤ b.High.Shoots) then (bif decide (b.Low.Height ≤ b.High.Height) then decide (b.Low.Girth ≤ b.High.Girth)
          else false)
        else false)
      else false)
    else false)
  else false
theorem growth_boxIsDefined_fc (b : XBox) : FC P GG 68 [.agg #[I (b.Low.Age), I (b.Low.Shoots), I (b.Low.Height), I (b.Low.Girth), I (b.High.Age), I (b.High.Shoots), I (b.High.Height), I (b.High.Girth)]] [] (.bool (growth_boxIsDefined b)) := by
  refine FC.of_fsat 47 100 Tryd.func68 (by kernel_rfl) (by kernel_rfl) (by kernel_rfl) trivial ?_
  rcases Bool.eq_false_or_eq_true (growth_standIsDefined b.Low) with h1 | h1
  · skip
    rcases Bool.eq_false_or_eq_true (growth_standIsDefined b.High) with h2 | h2
    · skip
      rcases Bool.eq_false_or_eq_true (b.Low.Age == b.High.Age) with h3 | h3
      · skip
        rcases Bool.eq_false_or_eq_true (decide (b.Low.Shoots ≤ b.High.Shoots)) with h4 | h4
        · skip
          rcases Bool.eq_false_or_eq_true (decide (b.Low.Height ≤ b.High.Height)) with h5 | h5
          · skip
            have e : growth_boxIsDefined b = decide (b.Low.Girth ≤ b.High.Girth) := by unfold growth_boxIsDefined; rw [h1, cond_true, h2, cond_true, h3, cond_true, h4, cond_true, h5, cond_true]; first | done | rfl
            rw [e]
            exact FSat.done pfT (fuel := 10) (hs := (hR 4 ((hB (hC (.bool (growth_standIsDefined b.Low))) true) :: hE :: hE :: hE :: (hB (hC (.bool (growth_standIsDefined b.High))) true) :: (hR 8 (hT :: (hR 8 (hT :: (hR 8 (hT :: (hR 11 [])))))))))) (ss := []) (R := [(growth_boxIsDefined_r0 b), (growth_standIsDefined b.Low) = true, (growth_boxIsDefined_r1 b), (growth_standIsDefined b.High) = true, (b.Low.Age == b.High.Age) = true, (decide (b.Low.Shoots ≤ b.High.Shoots)) = true, (decide (b.Low.Height ≤ b.High.Height)) = true]) (by kernel_rfl) ⟨growth_standIsDefined_fc b.Low, h1, growth_standIsDefined_fc b.High, h2, h3, h4, h5, trivial⟩ (by kernel_rfl)
          · skip
            have e : growth_boxIsDefined b = false := by unfold growth_boxIsDefined; rw [h1, cond_true, h2, cond_true, h3, cond_true, h4, cond_true, h5, cond_false]; first | done | rfl
            rw [e]
            exact FSat.done pfT (fuel := 10) (hs := (hR 4 ((hB (hC (.bool (growth_standIsDefined b.Low))) true) :: hE :: hE :: hE :: (hB (hC (.bool (growth_standIsDefined b.High))) true) :: (hR 8 (hT :: (hR 8 (hT :: (hR 8 (hF :: (hR 4 [])))))))))) (ss := []) (R := [(growth_boxIsDefined_r0 b), (growth_standIsDefined b.Low) = true, (growth_boxIsDefined_r1 b), (growth_standIsDefined b.High) = true, (b.Low.Age == b.High.Age) = true, (decide (b.Low.Shoots ≤ b.High.Shoots)) = true, (decide (b.Low.Height ≤ b.High.Height)) = false]) (by kernel_rfl) ⟨growth_standIsDefined_fc b.Low, h1, growth_standIsDefined_fc b.High, h2, h3, h4, h5, trivial⟩ (by kernel_rfl)
        · skip
          have e : growth_boxIsDefined b = false := by unfold growth_boxIsDefined; rw [h1, cond_true, h2, cond_true, h3, cond_true, h4, cond_false]; first | done | rfl
          rw [e]
          exact FSat.done pfT (fuel := 10) (hs := (hR 4 ((hB (hC (.bool (growth_standIsDefined b.Low))) true) :: hE :: hE :: hE :: (hB (hC (.bool (growth_standIsDefined b.High))) true) :: (hR 8 (hT :: (hR 8 (hF :: (hR 6 [])))))))) (ss := []) (R := [(growth_boxIsDefined_r0 b), (growth_standIsDefined b.Low) = true, (growth_boxIsDefined_r1 b), (growth_standIsDefined b.High) = true, (b.Low.Age == b.High.Age) = true, (decide (b.Low.Shoots ≤ b.High.Shoots)) = false]) (by kernel_rfl) ⟨growth_standIsDefined_fc b.Low, h1, growth_standIsDefined_fc b.High, h2, h3, h4, trivial⟩ (by kernel_rfl)
      · skip
        have e : growth_boxIsDefined b = false := by unfold growth_boxIsDefined; rw [h1, cond_true, h2, cond_true, h3, cond_false]; first | done | rfl
        rw [e]
        exact FSat.done pfT (fuel := 10) (hs := (hR 4 ((hB (hC (.bool (growth_standIsDefined b.Low))) true) :: hE :: hE :: hE :: (hB (hC (.bool (growth_standIsDefined b.High))) true) :: (hR 8 (hF :: (hR 8 [])))))) (ss := []) (R := [(growth_boxIsDefined_r0 b), (growth_standIsDefined b.Low) = true, (growth_boxIsDefined_r1 b), (growth_standIsDefined b.High) = true, (b.Low.Age == b.High.Age) = false]) (by kernel_rfl) ⟨growth_standIsDefined_fc b.Low, h1, growth_standIsDefined_fc b.High, h2, h3, trivial⟩ (by kernel_rfl)
    · skip
      have e : growth_boxIsDefined b = false := by unfold growth_boxIsDefined; rw [h1, cond_true, h2, cond_false]; first | done | rfl
      rw [e]
      exact FSat.done pfT (fuel := 10) (hs := (hR 4 ((hB (hC (.bool (growth_standIsDefined b.Low))) true) :: hE :: hE :: hE :: (hB (hC (.bool (growth_standIsDefined b.High))) false) :: (hR 10 [])))) (ss := []) (R := [(growth_boxIsDefined_r0 b), (growth_standIsDefined b.Low) = true, (growth_boxIsDefined_r1 b), (growth_standIsDefined b.High) = false]) (by kernel_rfl) ⟨growth_standIsDefined_fc b.Low, h1, growth_standIsDefined_fc b.High, h2, trivial⟩ (by kernel_rfl)
  · skip
    have e : growth_boxIsDefined b = false := by unfold growth_boxIsDefined; rw [h1, cond_false]; first | done | rfl
    rw [e]
    exact FSat.done pfT (fuel := 10) (hs := (hR 4 ((hB (hC (.bool (growth_standIsDefined b.Low))) false) :: (hR 11 [])))) (ss := []) (R := [(growth_boxIsDefined_r0 b), (growth_standIsDefined b.Low) = false]) (by kernel_rfl) ⟨growth_standIsDefined_fc b.Low, h1, trivial⟩ (by kernel_rfl)

end Go.Proofs.G2
