/- The law GrowthNarrows on plain functions: it says true for each input. No conditions. -/
import Derived.Test.YtfgdbanigkfjlaaDoorGc
namespace Go.Proofs.G2
open Go Go.Sim Go.Proofs
set_option maxRecDepth 4000
theorem W_id {n : Int} (h1 : -9000000000000000000 ≤ n) (h2 : n ≤ 9000000000000000000) : W n = n := by
  show IntKind.i64.wrap n = n
  simp [IntKind.wrap, IntKind.bits, IntKind.signed]
  omega
theorem at_get {X : Type} (z : X) (l : List X) (i : Nat) (h : i < l.length) : at_ z l (i : Int) = l[i] := by
  unfold at_
  simp [List.getD, List.getElem?_eq_getElem h]
theorem loop_all {X : Type} (l : List X) (z : X) (t : X → Bool) (e : Bool) (g : Nat → Int → Option Bool)
    (hg : ∀ fk v, g (fk + 1) v = bif decide (v < ((l.length : Nat) : Int)) then (bif decide (0 ≤ v ∧ v < ((l.length : Nat) : Int)) then (bif t (at_ z l v) then g fk (W (v + 1)) else some false) else none) else some e) (hlen : l.length ≤ 1000) :
    ∀ (fk i : Nat), i ≤ l.length → l.length - i < fk → g fk (i : Int) = some ((l.drop i).all t && e) := by
  intro fk
  induction fk with
  | zero => intro i _ h; omega
  | succ fk ih =>
    intro i hi hf
    rw [hg]
    by_cases hlt : i < l.length
    · have d1 : decide ((i : Int) < ((l.length : Nat) : Int)) = true := by simp; omega
      have d2 : decide (0 ≤ (i : Int) ∧ (i : Int) < ((l.length : Nat) : Int)) = true := by simp; omega
      have hw : W ((i : Int) + 1) = ((i + 1 : Nat) : Int) := by rw [W_id (by omega) (by omega)]; push_cast; rfl
      rw [d1, d2, cond_true, cond_true, at_get z l i hlt, hw, ih (i + 1) (by omega) (by omega), List.drop_eq_getElem_cons hlt]
      simp only [List.all_cons]
      cases t l[i] <;> simp
    · have d1 : decide ((i : Int) < ((l.length : Nat) : Int)) = false := by simp; omega
      rw [d1, cond_false, List.drop_of_length_le (by omega)]
      simp
theorem imin_le (a b : Int) : imin a b ≤ a ∧ imin a b ≤ b ∧ (imin a b = a ∨ imin a b = b) := by unfold imin; split <;> omega
theorem imax_le (a b : Int) : a ≤ imax a b ∧ b ≤ imax a b ∧ (imax a b = a ∨ imax a b = b) := by unfold imax; split <;> omega
theorem known_true : law02_known 2100 = some true := by kernel_rfl
theorem gt_not (a b : Int) : decide (a > b) = !decide (a ≤ b) := by by_cases h : a ≤ b <;> simp [h] <;> omega
/-! ### What samples leave of a box -/
noncomputable def meetK (b : XBox) (x : XSample) : XSpan := ⟨imax (growth_spanOf b x.Kind).Low x.Span.Low, imin (growth_spanOf b x.Kind).High x.Span.High⟩
noncomputable def narrowZ : List XSample → XBox → XBox × Bool
  | [], b => (b, true)
  | x :: l, b => bif decide ((meetK b x).Low ≤ (meetK b x).High) then narrowZ l (ref02_Set b x.Kind (meetK b x)) else (zXBox, false)
theorem keep_val (b : XBox) (x : XSample) : growth_keep b x.Kind x.Span = bif decide ((meetK b x).Low ≤ (meetK b x).High) then (ref02_Set b x.Kind (meetK b x), true) else (zXBox, false) := by
  unfold growth_keep meetK growth_spanOf ref02_Set
  simp only [gt_not]
  cases x.Kind == 1
  · cases x.Kind == 2
    · simp only [cond_false]
      cases decide (imax b.Low.Girth x.Span.Low ≤ imin b.High.Girth x.Span.High) <;> rfl
    · simp only [cond_false, cond_true]
      cases decide (imax b.Low.Height x.Span.Low ≤ imin b.High.Height x.Span.High) <;> rfl
  · simp only [cond_true]
    cases decide (imax b.Low.Shoots x.Span.Low ≤ imin b.High.Shoots x.Span.High) <;> rfl
noncomputable def nL (fu : Nat) (b0 : XBox) (l : List XSample) (fk : Nat) (v : Bool) (i : Int) (b : XBox) : Option (XBox × Bool) := growth_narrow_L fu b0 l fk v i b.Low.Age b.Low.Shoots b.Low.Height b.Low.Girth b.High.Age b.High.Shoots b.High.Height b.High.Girth
theorem nL_s (fu : Nat) (b0 : XBox) (l : List XSample) (fk : Nat) (v : Bool) (i : Int) (b : XBox) : nL fu b0 l (fk + 1) v i b = bif decide (i < ((l.length : Nat) : Int)) then (bif decide (0 ≤ i ∧ i < ((l.length : Nat) : Int)) then
    (bif (growth_keep b (at_ zXSample l i).Kind (at_ zXSample l i).Span).2 then nL fu b0 l fk true (W (i + 1)) (growth_keep b (at_ zXSample l i).Kind (at_ zXSample l i).Span).1 else some ((growth_keep b (at_ zXSample l i).Kind (at_ zXSample l i).Span).1, false)) else none) else some (b, v) := by
  unfold nL
  rw [growth_narrow_L_s0]
theorem nL_val (fu : Nat) (b0 : XBox) (l : List XSample) (hl : l.length ≤ 1000) : ∀ (fk i : Nat) (b : XBox), i ≤ l.length → l.length - i < fk → nL fu b0 l fk true (i : Int) b = some (narrowZ (l.drop i) b) := by
  intro fk
  induction fk with
  | zero => intro i b _ h; omega
  | succ fk ih =>
    intro i b hi hf
    rw [nL_s]
    by_cases hlt : i < l.length
    · have d1 : decide ((i : Int) < ((l.length : Nat) : Int)) = true := by simp; omega
      have d2 : decide (0 ≤ (i : Int) ∧ (i : Int) < ((l.length : Nat) : Int)) = true := by simp; omega
      have hw : W ((i : Int) + 1) = ((i + 1 : Nat) : Int) := by rw [W_id (by omega) (by omega)]; push_cast; rfl
      rw [d1, d2, cond_true, cond_true, at_get zXSample l i hlt, hw, ih (i + 1) _ (by omega) (by omega), List.drop_eq_getElem_cons hlt, keep_val]
      show _ = some (bif decide ((meetK b l[i]).Low ≤ (meetK b l[i]).High) then narrowZ (l.drop (i + 1)) (ref02_Set b l[i].Kind (meetK b l[i])) else (zXBox, false))
      cases decide ((meetK b l[i]).Low ≤ (meetK b l[i]).High) <;> rfl
    · have d1 : decide ((i : Int) < ((l.length : Nat) : Int)) = false := by simp; omega
      rw [d1, cond_false, List.drop_of_length_le (by omega)]
      rfl
theorem narrow_val {fu : Nat} (b : XBox) (l : List XSample) (hl : l.length ≤ 1000) (hfu : l.length < fu) : growth_narrow fu b l = some (narrowZ l b) := by
  have := nL_val fu b l hl fu 0 b (by omega) (by omega)
  rw [List.drop_zero] at this
  exact this
noncomputable def narL (fu : Nat) (b0 : XBox) (l : List XSample) (fk : Nat) (v : Bool) (i : Int) (b : XBox) : Option (XBox × Bool) := ref02_Narrow_L fu b0 l fk v i b.Low.Age b.Low.Shoots b.Low.Height b.Low.Girth b.High.Age b.High.Shoots b.High.Height b.High.Girth
theorem narL_s (fu : Nat) (b0 : XBox) (l : List XSample) (fk : Nat) (v : Bool) (i : Int) (b : XBox) : narL fu b0 l (fk + 1) v i b = bif decide (i < ((l.length : Nat) : Int)) then (bif decide (0 ≤ i ∧ i < ((l.length : Nat) : Int)) then (bif decide ((meetK b (at_ zXSample l i)).Low ≤ (meetK b (at_ zXSample l i)).High) then narL fu b0 l fk v (W (i + 1)) (ref02_Set b (at_ zXSample l i).Kind (meetK b (at_ zXSample l i)))
    else some (zXBox, false)) else none) else some (b, true) := by
  have e : ∀ (x y : Int) (t u : Option (XBox × Bool)), (bif decide (x > y) then t else u) = (bif decide (x ≤ y) then u else t) := by
    intro x y t u
    rw [gt_not]
    cases decide (x ≤ y) <;> rfl
  unfold narL
  rw [ref02_Narrow_L_s0]
  simp only [e]
  rfl
theorem narL_val (fu : Nat) (b0 : XBox) (l : List XSample) (hl : l.length ≤ 1000) (v : Bool) : ∀ (fk i : Nat) (b : XBox), i ≤ l.length → l.length - i < fk → narL fu b0 l fk v (i : Int) b = some (narrowZ (l.drop i) b) := by
  intro fk
  induction fk with
  | zero => intro i b _ h; omega
  | succ fk ih =>
    intro i b hi hf
    rw [narL_s]
    by_cases hlt : i < l.length
    · have d1 : decide ((i : Int) < ((l.length : Nat) : Int)) = true := by simp; omega
      have d2 : decide (0 ≤ (i : Int) ∧ (i : Int) < ((l.length : Nat) : Int)) = true := by simp; omega
      have hw : W ((i : Int) + 1) = ((i + 1 : Nat) : Int) := by rw [W_id (by omega) (by omega)]; push_cast; rfl
      rw [d1, d2, cond_true, cond_true, at_get zXSample l i hlt, hw, ih (i + 1) _ (by omega) (by omega), List.drop_eq_getElem_cons hlt]
      show _ = some (bif decide ((meetK b l[i]).Low ≤ (meetK b l[i]).High) then narrowZ (l.drop (i + 1)) (ref02_Set b l[i].Kind (meetK b l[i])) else (zXBox, false))
      cases decide ((meetK b l[i]).Low ≤ (meetK b l[i]).High) <;> rfl
    · have d1 : decide ((i : Int) < ((l.length : Nat) : Int)) = false := by simp; omega
      rw [d1, cond_false, List.drop_of_length_le (by omega)]
      rfl
theorem refNarrow_val {fu : Nat} (b : XBox) (l : List XSample) (hl : l.length ≤ 1000) (hfu : l.length < fu) : ref02_Narrow fu b l = some (narrowZ l b) := by
  have := narL_val fu b l hl false fu 0 b (by omega) (by omega)
  rw [List.drop_zero] at this
  exact this
/-! ### The order does not matter, nor whether they come twice -/
def lowK (k : XSample → Bool) (l : List XSample) (a : Int) : Int := l.foldl (fun v x => bif k x then imax v x.Span.Low else v) a
def highK (k : XSample → Bool) (l : List XSample) (a : Int) : Int := l.foldl (fun v x => bif k x then imin v x.Span.High else v) a
theorem lowK_le (k : XSample → Bool) : ∀ (l : List XSample) (a y : Int), lowK k l a ≤ y ↔ a ≤ y ∧ ∀ x ∈ l, k x = true → x.Span.Low ≤ y := by
  intro l
  induction l with
  | nil => intro a y; simp [lowK]
  | cons x l ih =>
    intro a y
    have h := ih (bif k x then imax a x.Span.Low else a) y
    unfold lowK at h ⊢
    rw [List.foldl_cons, h]
    have hm := imax_le a x.Span.Low
    cases hk : k x with
    | false => simp [hk]
    | true =>
      simp only [cond_true, List.mem_cons, forall_eq_or_imp, hk]
      constructor
      · rintro ⟨h1, h2⟩; exact ⟨by omega, fun _ => by omega, h2⟩
      · rintro ⟨h1, h2, h3⟩; have := h2 trivial; exact ⟨by omega, h3⟩
theorem le_highK (k : XSample → Bool) : ∀ (l : List XSample) (a y : Int), y ≤ highK k l a ↔ y ≤ a ∧ ∀ x ∈ l, k x = true → y ≤ x.Span.High := by
  intro l
  induction l with
  | nil => intro a y; simp [highK]
  | cons x l ih =>
    intro a y
    have h := ih (bif k x then imin a x.Span.High else a) y
    unfold highK at h ⊢
    rw [List.foldl_cons, h]
    have hm := imin_le a x.Span.High
    cases hk : k x with
    | false => simp [hk]
    | true =>
      simp only [cond_true, List.mem_cons, forall_eq_or_imp, hk]
      constructor
      · rintro ⟨h1, h2⟩; exact ⟨by omega, fun _ => by omega, h2⟩
      · rintro ⟨h1, h2, h3⟩; have := h2 trivial; exact ⟨by omega, h3⟩
theorem lowK_same (k : XSample → Bool) {l m : List XSample} (h : ∀ x, x ∈ l ↔ x ∈ m) (a : Int) : lowK k l a = lowK k m a := by
  have h1 := (lowK_le k l a (lowK k m a)).2 (by have := (lowK_le k m a _).1 (Int.le_refl _); exact ⟨this.1, fun x hx => this.2 x ((h x).1 hx)⟩)
  have h2 := (lowK_le k m a (lowK k l a)).2 (by have := (lowK_le k l a _).1 (Int.le_refl _); exact ⟨this.1, fun x hx => this.2 x ((h x).2 hx)⟩)
  omega
theorem highK_same (k : XSample → Bool) {l m : List XSample} (h : ∀ x, x ∈ l ↔ x ∈ m) (a : Int) : highK k l a = highK k m a := by
  have h1 := (le_highK k m a (highK k l a)).2 (by have := (le_highK k l a _).1 (Int.le_refl _); exact ⟨this.1, fun x hx => this.2 x ((h x).2 hx)⟩)
  have h2 := (le_highK k l a (highK k m a)).2 (by have := (le_highK k m a _).1 (Int.le_refl _); exact ⟨this.1, fun x hx => this.2 x ((h x).1 hx)⟩)
  omega
def k1 (x : XSample) : Bool := x.Kind == 1
def k2 (x : XSample) : Bool := !(x.Kind == 1) && x.Kind == 2
def k3 (x : XSample) : Bool := !(x.Kind == 1) && !(x.Kind == 2)
def cutZ (l : List XSample) (b : XBox) : XBox := ⟨⟨b.Low.Age, lowK k1 l b.Low.Shoots, lowK k2 l b.Low.Height, lowK k3 l b.Low.Girth⟩, ⟨b.High.Age, highK k1 l b.High.Shoots, highK k2 l b.High.Height, highK k3 l b.High.Girth⟩⟩
def fineB (b : XBox) : Bool := decide (b.Low.Shoots ≤ b.High.Shoots) && (decide (b.Low.Height ≤ b.High.Height) && decide (b.Low.Girth ≤ b.High.Girth))
theorem fine_iff (b : XBox) : fineB b = true ↔ b.Low.Shoots ≤ b.High.Shoots ∧ b.Low.Height ≤ b.High.Height ∧ b.Low.Girth ≤ b.High.Girth := by
  unfold fineB
  simp only [Bool.and_eq_true, decide_eq_true_eq]
theorem cut_cons (x : XSample) (l : List XSample) (b : XBox) : cutZ (x :: l) b = cutZ l (ref02_Set b x.Kind (meetK b x)) := by
  unfold cutZ ref02_Set meetK growth_spanOf lowK highK
  simp only [List.foldl_cons, k1, k2, k3]
  cases x.Kind == 1 <;> cases x.Kind == 2 <;> rfl
theorem fine_set (b : XBox) (hb : fineB b = true) (x : XSample) : fineB (ref02_Set b x.Kind (meetK b x)) = decide ((meetK b x).Low ≤ (meetK b x).High) := by
  obtain ⟨h1, h2, h3⟩ := (fine_iff b).1 hb
  unfold fineB ref02_Set
  cases x.Kind == 1 <;> cases x.Kind == 2 <;> simp [h1, h2, h3]
theorem fine_less (l : List XSample) (b : XBox) (h : fineB (cutZ l b) = true) : fineB b = true := by
  obtain ⟨h1, h2, h3⟩ := (fine_iff _).1 h
  simp only [cutZ] at h1 h2 h3
  have a1 := ((lowK_le k1 l b.Low.Shoots _).1 (Int.le_refl _)).1
  have a2 := ((lowK_le k2 l b.Low.Height _).1 (Int.le_refl _)).1
  have a3 := ((lowK_le k3 l b.Low.Girth _).1 (Int.le_refl _)).1
  have c1 := ((le_highK k1 l b.High.Shoots _).1 (Int.le_refl _)).1
  have c2 := ((le_highK k2 l b.High.Height _).1 (Int.le_refl _)).1
  have c3 := ((le_highK k3 l b.High.Girth _).1 (Int.le_refl _)).1
  exact (fine_iff b).2 ⟨by omega, by omega, by omega⟩
theorem narrow_cut : ∀ (l : List XSample) (b : XBox), fineB b = true → narrowZ l b = bif fineB (cutZ l b) then (cutZ l b, true) else (zXBox, false) := by
  intro l
  induction l with
  | nil => intro b hb; show _ = bif fineB b then _ else _; rw [hb]; rfl
  | cons x l ih =>
    intro b hb
    rw [cut_cons]
    show (bif decide ((meetK b x).Low ≤ (meetK b x).High) then narrowZ l (ref02_Set b x.Kind (meetK b x)) else (zXBox, false)) = _
    have hf := fine_set b hb x
    cases hd : decide ((meetK b x).Low ≤ (meetK b x).High) with
    | true => rw [hd] at hf; exact ih _ hf
    | false =>
      rw [hd] at hf
      have : fineB (cutZ l (ref02_Set b x.Kind (meetK b x))) = false := by
        rw [Bool.eq_false_iff]
        intro h
        rw [fine_less l _ h] at hf
        cases hf
      rw [this]
      rfl
theorem narrow_same {l m : List XSample} (h : ∀ x, x ∈ l ↔ x ∈ m) (b : XBox) (hb : fineB b = true) : narrowZ l b = narrowZ m b := by
  rw [narrow_cut l b hb, narrow_cut m b hb]
  have : cutZ l b = cutZ m b := by unfold cutZ; rw [lowK_same k1 h, lowK_same k2 h, lowK_same k3 h, highK_same k1 h, highK_same k2 h, highK_same k3 h]
  rw [this]
/-! ### The law -/
theorem box_fine (b : XBox) (h : growth_boxIsDefined b = true) : fineB b = true := by
  unfold growth_boxIsDefined at h
  rw [fine_iff]
  revert h
  cases growth_standIsDefined b.Low <;> cases growth_standIsDefined b.High <;> cases b.Low.Age == b.High.Age <;> by_cases h1 : b.Low.Shoots ≤ b.High.Shoots <;> by_cases h2 : b.Low.Height ≤ b.High.Height <;> by_cases h3 : b.Low.Girth ≤ b.High.Girth <;> simp [h1, h2, h3]
theorem samples_ref (fu : Nat) (l : List XSample) (h : l.length ≤ 1000) (hfu : l.length < fu) : ref02_Samples fu l = some (l.all fun q => ref02_Sample q) := by
  have := loop_all l zXSample (fun q => ref02_Sample q) true (fun fk v => ref02_Samples_L fu l fk false v) (fun fk v => ref02_Samples_L_s0 fu l fk false v) h fu 0 (by omega) (by omega)
  simp only [List.drop_zero, Bool.and_true] at this
  exact this
theorem samples_code (fu : Nat) (l : List XSample) (h : l.length ≤ 1000) (hfu : l.length < fu) : growth_samplesAreDefined fu l = some (l.all fun q => ref02_Sample q) := by
  have := loop_all l zXSample (fun q => growth_samplesAreDefined_1 q) true (fun fk v => api_Sample_L fu l fk false v) (fun fk v => api_Sample_L_s0 fu l fk false v) h fu 0 (by omega) (by omega)
  simp only [List.drop_zero, Bool.and_true] at this
  have e : (fun q => growth_samplesAreDefined_1 q) = fun q => ref02_Sample q := rfl
  rw [e] at this
  unfold growth_samplesAreDefined
  rw [show api_Sample fu l = _ from this]
  rfl
theorem Narrow_val {fu : Nat} (b : XBox) (l : List XSample) (hl : l.length ≤ 1000) (hfu : l.length < fu) : growth_Narrow fu b l = some (bif decide (((l.length : Nat) : Int) > 50) then (zXBox, 3) else bif growth_boxIsDefined b && l.all (fun q => ref02_Sample q) then (bif (narrowZ l b).2 then ((narrowZ l b).1, 0) else (zXBox, 5)) else (zXBox, 2)) := by
  unfold growth_Narrow growth_tooMany
  rw [samples_code fu l hl hfu, narrow_val b l hl hfu]
  simp only [Option.bind_some]
  cases decide (((l.length : Nat) : Int) > 50)
  · cases growth_boxIsDefined b
    · rfl
    · cases l.all (fun q => ref02_Sample q)
      · rfl
      · unfold growth_orNone
        cases (narrowZ l b).2 <;> rfl
  · rfl
noncomputable def treeN (fu : Nat) (b : XBox) (l l2 : List XSample) : Option Bool :=
  Option.bind (growth_Narrow fu b (l)) fun x1 =>
  bif ref02_Box b then (Option.bind (ref02_Samples fu (l)) fun x2 =>
    bif x2 then (Option.bind (growth_Narrow fu b (l2)) fun x3 =>
      Option.bind (ref02_Narrow fu b (l)) fun x4 =>
      bif x4.2 then (bif x1.2 == 0 then (bif x3.2 == 0 then (bif (((x1.1.Low.Age == x4.1.Low.Age) && ((x1.1.Low.Shoots == x4.1.Low.Shoots) && ((x1.1.Low.Height == x4.1.Low.Height) && ((x1.1.Low.Girth == x4.1.Low.Girth) && true)))) && (((x1.1.High.Age == x4.1.High.Age) && ((x1.1.High.Shoots == x4.1.High.Shoots) && ((x1.1.High.Height == x4.1.High.Height) && ((x1.1.High.Girth == x4.1.High.Girth) && true)))) && true)) then (bif (((x3.1.Low.Age == x4.1.Low.Age) && ((x3.1.Low.Shoots == x4.1.Low.Shoots) && ((x3.1.Low.Height == x4.1.Low.Height) && ((x3.1.Low.Girth == x4.1.Low.Girth) && true)))) && (((x3.1.High.Age == x4.1.High.Age) && ((x3.1.High.Shoots == x4.1.High.Shoots) && ((x3.1.High.Height == x4.1.High.Height) && ((x3.1.High.Girth == x4.1.High.Girth) && true)))) && true)) then (Option.bind (law02_known fu) fun x5 =>
                some x5)
              else some false)
            else some false)
          else some false)
        else some false)
      else (bif x1.2 == 5 then (bif x3.2 == 5 then (bif (((x1.1.Low.Age == 0) && ((x1.1.Low.Shoots == 0) && ((x1.1.Low.Height == 0) && ((x1.1.Low.Girth == 0) && true)))) && (((x1.1.High.Age == 0) && ((x1.1.High.Shoots == 0) && ((x1.1.High.Height == 0) && ((x1.1.High.Girth == 0) && true)))) && true)) then (bif (((x3.1.Low.Age == 0) && ((x3.1.Low.Shoots == 0) && ((x3.1.Low.Height == 0) && ((x3.1.Low.Girth == 0) && true)))) && (((x3.1.High.Age == 0) && ((x3.1.High.Shoots == 0) && ((x3.1.High.Height == 0) && ((x3.1.High.Girth == 0) && true)))) && true)) then (Option.bind (law02_known fu) fun x5 =>
                some x5)
              else some false)
            else some false)
          else some false)
        else some false))
    else (bif x1.2 == 2 then (bif (((x1.1.Low.Age == 0) && ((x1.1.Low.Shoots == 0) && ((x1.1.Low.Height == 0) && ((x1.1.Low.Girth == 0) && true)))) && (((x1.1.High.Age == 0) && ((x1.1.High.Shoots == 0) && ((x1.1.High.Height == 0) && ((x1.1.High.Girth == 0) && true)))) && true)) then (Option.bind (law02_known fu) fun x5 =>
          some x5)
        else some false)
      else some false))
  else (bif x1.2 == 2 then (bif (((x1.1.Low.Age == 0) && ((x1.1.Low.Shoots == 0) && ((x1.1.Low.Height == 0) && ((x1.1.Low.Girth == 0) && true)))) && (((x1.1.High.Age == 0) && ((x1.1.High.Shoots == 0) && ((x1.1.High.Height == 0) && ((x1.1.High.Girth == 0) && true)))) && true)) then (Option.bind (law02_known fu) fun x5 =>
        some x5)
      else some false)
    else some false)
theorem zbox_0 : (((zXBox.Low.Age == 0) && ((zXBox.Low.Shoots == 0) && ((zXBox.Low.Height == 0) && ((zXBox.Low.Girth == 0) && true)))) && (((zXBox.High.Age == 0) && ((zXBox.High.Shoots == 0) && ((zXBox.High.Height == 0) && ((zXBox.High.Girth == 0) && true)))) && true)) = true := rfl
theorem tree_true (fu : Nat) (hfu : 200 ≤ fu) (hk : law02_known fu = some true) (b : XBox) (l l2 : List XSample) (h1 : l.length ≤ 10) (h2 : l2.length ≤ 20) (hm : ∀ x, x ∈ l2 ↔ x ∈ l) : treeN fu b l l2 = some true := by
  have hall : (l2.all fun q => ref02_Sample q) = l.all fun q => ref02_Sample q := by
    rw [Bool.eq_iff_iff, List.all_eq_true, List.all_eq_true]
    exact ⟨fun h x hx => h x ((hm x).2 hx), fun h x hx => h x ((hm x).1 hx)⟩
  unfold treeN
  rw [hk, Narrow_val b l (by omega) (by omega), Narrow_val b l2 (by omega) (by omega), samples_ref fu l (by omega) (by omega), refNarrow_val b l (by omega) (by omega), hall, decide_eq_false (p := ((l.length : Nat) : Int) > 50) (by omega), decide_eq_false (p := ((l2.length : Nat) : Int) > 50) (by omega)]
  simp only [Option.bind_some, cond_false]
  rw [show ref02_Box b = growth_boxIsDefined b from rfl]
  rcases Bool.eq_false_or_eq_true (growth_boxIsDefined b) with hb | hb
  rotate_left
  · rw [hb]; simp [zXBox, zXStand]
  rw [hb, narrow_same hm b (box_fine b hb)]
  cases l.all fun q => ref02_Sample q
  · simp [zXBox, zXStand]
  · simp only [cond_true, Bool.and_self]
    cases hn : (narrowZ l b).2 with
    | false => simp [zXBox, zXStand]
    | true => simp
theorem nx_true (fu : Nat) (hfu : 200 ≤ fu) (hk : law02_known fu = some true) (b : XBox) (l : List XSample) (h1 : 10 < l.length) : law02_GrowthNarrows_nx fu b l = some true := by
  unfold law02_GrowthNarrows_nx
  rw [hk, decide_eq_true (p := ((l.length : Nat) : Int) > 10) (by omega)]
  simp only [Option.bind_some, cond_true]
  by_cases h50 : ((l.length : Nat) : Int) ≤ 50
  · rw [decide_eq_true h50]; rfl
  rw [decide_eq_false h50]
  by_cases h100 : ((l.length : Nat) : Int) > 100
  · rw [decide_eq_true h100]; rfl
  rw [decide_eq_false h100, Narrow_val b l (by omega) (by omega), decide_eq_true (p := ((l.length : Nat) : Int) > 50) (by omega)]
  rfl
theorem n0_true (fu : Nat) (hfu : 200 ≤ fu) (hk : law02_known fu = some true) (b : XBox) : law02_GrowthNarrows_n0 fu b = some true := by
  have e : growth_Narrow_1 fu b = growth_Narrow fu b [] := by
    rw [Narrow_val b [] (by simp) (by simp; omega)]
    obtain ⟨f, rfl⟩ : ∃ f, fu = f + 1 := ⟨fu - 1, by omega⟩
    unfold growth_Narrow_1
    cases growth_boxIsDefined b <;> rfl
  have := tree_true fu hfu hk b [] [] (by simp) (by simp) (by simp)
  unfold law02_GrowthNarrows_n0
  rw [e]
  exact this
theorem narrows_core (fu : Nat) (hfu : 200 ≤ fu) (hk : law02_known fu = some true) (b : XBox) (l : List XSample) : law02_GrowthNarrows fu b l = some true := by
  unfold law02_GrowthNarrows
  match l with
  | [] => exact n0_true fu hfu hk b
  | [y0] => exact tree_true fu hfu hk b [y0] [y0, y0] (by simp) (by simp) (fun x => by simp only [List.mem_cons, List.not_mem_nil, or_false]; grind)
  | [y0, y1] => exact tree_true fu hfu hk b [y0, y1] [y1, y0, y0, y1] (by simp) (by simp) (fun x => by simp only [List.mem_cons, List.not_mem_nil, or_false]; grind)
  | [y0, y1, y2] => exact tree_true fu hfu hk b [y0, y1, y2] [y2, y1, y0, y0, y1, y2] (by simp) (by simp) (fun x => by simp only [List.mem_cons, List.not_mem_nil, or_false]; grind)
  | [y0, y1, y2, y3] => exact tree_true fu hfu hk b [y0, y1, y2, y3] [y3, y2, y1, y0, y0, y1, y2, y3] (by simp) (by simp) (fun x => by simp only [List.mem_cons, List.not_mem_nil, or_false]; grind)
  | [y0, y1, y2, y3, y4] => exact tree_true fu hfu hk b [y0, y1, y2, y3, y4] [y4, y3, y2, y1, y0, y0, y1, y2, y3, y4] (by simp) (by simp) (fun x => by simp only [List.mem_cons, List.not_mem_nil, or_false]; grind)
  | [y0, y1, y2, y3, y4, y5] => exact tree_true fu hfu hk b [y0, y1, y2, y3, y4, y5] [y5, y4, y3, y2, y1, y0, y0, y1, y2, y3, y4, y5] (by simp) (by simp) (fun x => by simp only [List.mem_cons, List.not_mem_nil, or_false]; grind)
  | [y0, y1, y2, y3, y4, y5, y6] => exact tree_true fu hfu hk b [y0, y1, y2, y3, y4, y5, y6] [y6, y5, y4, y3, y2, y1, y0, y0, y1, y2, y3, y4, y5, y6] (by simp) (by simp) (fun x => by simp only [List.mem_cons, List.not_mem_nil, or_false]; grind)
  | [y0, y1, y2, y3, y4, y5, y6, y7] => exact tree_true fu hfu hk b [y0, y1, y2, y3, y4, y5, y6, y7] [y7, y6, y5, y4, y3, y2, y1, y0, y0, y1, y2, y3, y4, y5, y6, y7] (by simp) (by simp) (fun x => by simp only [List.mem_cons, List.not_mem_nil, or_false]; grind)
  | [y0, y1, y2, y3, y4, y5, y6, y7, y8] => exact tree_true fu hfu hk b [y0, y1, y2, y3, y4, y5, y6, y7, y8] [y8, y7, y6, y5, y4, y3, y2, y1, y0, y0, y1, y2, y3, y4, y5, y6, y7, y8] (by simp) (by simp) (fun x => by simp only [List.mem_cons, List.not_mem_nil, or_false]; grind)
  | [y0, y1, y2, y3, y4, y5, y6, y7, y8, y9] => exact tree_true fu hfu hk b [y0, y1, y2, y3, y4, y5, y6, y7, y8, y9] [y9, y8, y7, y6, y5, y4, y3, y2, y1, y0, y0, y1, y2, y3, y4, y5, y6, y7, y8, y9] (by simp) (by simp) (fun x => by simp only [List.mem_cons, List.not_mem_nil, or_false]; grind)
  | y0 :: y1 :: y2 :: y3 :: y4 :: y5 :: y6 :: y7 :: y8 :: y9 :: y10 :: z => exact nx_true fu hfu hk b _ (by simp only [List.length_cons]; omega)
theorem narrows_true (b : XBox) (l : List XSample) : ∃ fu, law02_GrowthNarrows fu b l = some true := ⟨2100, narrows_core 2100 (by omega) known_true b l⟩
end Go.Proofs.G2
