/- What a value of a type that came in looks like. No conditions. -/
import Derived.ProofKit
import Derived.LaidMore
import Derived.OpenShut
import Derived.Carry
import Derived.Below
import Derived.Deep.Slices
import Derived.Test.YtfgdbanigkfjlaaDoorLa
namespace Go.Sim
open Go.RowKit Go.ChangeShapes Go.WideShapes

/-! ### What a value of a type looks like -/
inductive S0 where
  | i (k : IntKind)
  | b
inductive Sh where
  | fl (s : S0)
  | sl (sz : Nat) (es : List S0)
def Fit0 : List S0 → List Value → Prop
  | [], [] => True
  | .i k :: s, .int k' n :: c => k' = k ∧ (Lit.int k n).wf = true ∧ Fit0 s c
  | .b :: s, .bool _ :: c => Fit0 s c
  | _, _ => False
def SlcAt (w : World) (sz : Nat) (es : List S0) (v : Value) : Prop :=
  v = .slice none 0 0 ∨ ∃ (a : Addr) (len cap : Nat), v = .slice (some a) len cap ∧ ∀ i, i < len → ∃ cs, w.cells? 0 (a.add (i * sz)) sz = some cs ∧ Fit0 es cs
def Fit (w : World) : List Sh → List Value → Prop
  | [], [] => True
  | .fl (.i k) :: s, .int k' n :: c => k' = k ∧ (Lit.int k n).wf = true ∧ Fit w s c
  | .fl .b :: s, .bool _ :: c => Fit w s c
  | .sl sz es :: s, v :: c => SlcAt w sz es v ∧ Fit w s c
  | _, _ => False
theorem Fit.append {w : World} : ∀ {s r : List Sh} {a b : List Value}, Fit w s a → Fit w r b → Fit w (s ++ r) (a ++ b) := by
  intro s
  induction s with
  | nil =>
    intro r a b h1 h2
    cases a with
    | nil => exact h2
    | cons v a => exact h1.elim
  | cons x s ih =>
    intro r a b h1 h2
    cases a with
    | nil => cases x with
      | fl y => cases y <;> exact h1.elim
      | sl _ _ => exact h1.elim
    | cons v a =>
      cases x with
      | fl y =>
        cases y with
        | i k =>
          cases v with
          | int k' n => exact ⟨h1.1, h1.2.1, ih h1.2.2 h2⟩
          | _ => exact h1.elim
        | b =>
          cases v with
          | bool n => show Fit w (s ++ r) (a ++ b); exact ih h1 h2
          | _ => exact h1.elim
      | sl sz es => exact ⟨h1.1, ih h1.2 h2⟩
def flat0 : List Sh → Option (List S0)
  | [] => some []
  | .fl s :: r => match flat0 r with
    | some r => some (s :: r)
    | none => none
  | .sl _ _ :: _ => none
theorem flat0_fit {w : World} : ∀ {s : List Sh} {r : List S0} {c : List Value}, flat0 s = some r → Fit w s c → Fit0 r c := by
  intro s
  induction s with
  | nil =>
    intro r c h1 h2
    cases h1
    cases c with
    | nil => trivial
    | cons v c => exact h2.elim
  | cons x s ih =>
    intro r c h1 h2
    cases x with
    | sl _ _ => cases h1
    | fl y =>
      unfold flat0 at h1
      split at h1
      rotate_left
      · cases h1
      rename_i r0 hr
      cases h1
      cases c with
      | nil => cases y <;> exact h2.elim
      | cons v c =>
        cases y with
        | i k =>
          cases v with
          | int k' n => exact ⟨h2.1, h2.2.1, ih hr h2.2.2⟩
          | _ => exact h2.elim
        | b =>
          cases v with
          | bool n => show Fit0 r0 c; exact ih hr h2
          | _ => exact h2.elim
noncomputable def shFs (P : Program) (rec : TypeId → Option (List Sh)) : List Field → Nat → Option (List Sh)
  | [], _ => some []
  | f :: fs, off => bif Nat.beq f.offset off then (match rec f.type with
    | some s => bif Nat.beq s.length (P.cellsOf f.type) then (match shFs P rec fs (off + s.length) with
      | some r => some (s ++ r)
      | none => none) else none
    | none => none) else none
noncomputable def shapeOf (P : Program) : Nat → TypeId → Option (List Sh)
  | 0, _ => none
  | d + 1, t => match P.underlying t with
    | some (.int k) => some [.fl (.i k)]
    | some .bool => some [.fl .b]
    | some (.slice e) => match shapeOf P d e with
      | some s => (match flat0 s with
        | some es => some [.sl (P.cellsOf e) es]
        | none => none)
      | none => none
    | some (.struct fs) => match shFs P (shapeOf P d) fs.toList 0 with
      | some r => bif Nat.beq r.length (P.cellsOf t) then some r else none
      | none => none
    | _ => none
section
variable {H : Type} {enc : TypeId × Value → H} {P : Program} {w : World} {spare : Nat → Bool} {held : Bool}
theorem shFs_fit {rec : TypeId → Option (List Sh)} {n : Nat} (hrec : ∀ t s cs x, rec t = some s → DataW.trod enc P w 0 spare held n t cs = some x → Fit w s cs) {cs : List Value} : ∀ (fs : List Field) (off : Nat) (r : List Sh), shFs P rec fs off = some r →
    (∀ f ∈ fs, ∃ x, DataW.trod enc P w 0 spare held n f.type ((cs.drop f.offset).take (P.cellsOf f.type)) = some x) → Fit w r ((cs.drop off).take r.length) := by
  intro fs
  induction fs with
  | nil => intro off r h _; unfold shFs at h; cases h; simp [Fit]
  | cons f fs ih =>
    intro off r h hall
    unfold shFs at h
    obtain ⟨h1, h⟩ := cond_some h
    split at h
    rotate_left
    · cases h
    rename_i s hs
    obtain ⟨h2, h⟩ := cond_some h
    split at h
    rotate_left
    · cases h
    rename_i r' hr
    cases h
    have h1 := Nat.eq_of_beq_eq_true h1
    have h2 := Nat.eq_of_beq_eq_true h2
    obtain ⟨x, hx⟩ := hall f (by simp)
    have hf := hrec _ _ _ _ hs hx
    rw [h1, ← h2] at hf
    have hrest := ih (off + s.length) r' hr fun g hg => hall g (by simp [hg])
    rw [List.length_append, List.take_add, List.drop_drop]
    exact hf.append hrest
theorem shape_fit : ∀ (d : Nat) (t : TypeId) (s : List Sh) (fuel : Nat) (cs : List Value) (x : DataW H × List MemPlace), shapeOf P d t = some s → DataW.trod enc P w 0 spare held fuel t cs = some x → Fit w s cs := by
  intro d
  induction d with
  | zero => intro t s fuel cs x h; cases h
  | succ d ih =>
    intro t s fuel cs x h hx
    unfold shapeOf at h
    split at h
    · rename_i k ht
      cases h
      obtain ⟨n, rfl, _, hw⟩ := DataW.trod_int ht hx
      exact ⟨rfl, hw, trivial⟩
    · rename_i ht
      cases h
      obtain ⟨b, rfl, _⟩ := DataW.trod_bool ht hx
      exact trivial
    · rename_i e ht
      split at h
      rotate_left
      · cases h
      rename_i s0 hs0
      split at h
      rotate_left
      · cases h
      rename_i es hes
      cases h
      rcases Go.Deep.open_slice ht hx with ⟨rfl, _⟩ | ⟨a, len, cap, m, n, D, Pl, rfl, _, hlc, _, hm, _, hel⟩
      · exact ⟨.inl rfl, trivial⟩
      · refine ⟨.inr ⟨a, len, cap, rfl, fun i hi => ?_⟩, trivial⟩
        obtain ⟨cs', h1, h2⟩ := hel i (by rw [hm]; split <;> omega)
        exact ⟨cs', h1, flat0_fit hes (ih _ _ _ _ _ hs0 h2)⟩
    · rename_i fs ht
      split at h
      rotate_left
      · cases h
      rename_i r hr
      obtain ⟨hl, h⟩ := cond_some h
      cases h
      have hl := Nat.eq_of_beq_eq_true hl
      obtain ⟨xs, n, _, _, hlen, hxs, hall⟩ := DataW.trod_struct ht hx
      have := shFs_fit (cs := cs) (fun t s cs x h1 h2 => ih t s n cs x h1 h2) fs.toList 0 _ hr fun f hf => by
        obtain ⟨i, hi⟩ := List.getElem?_of_mem hf
        have hi' : fs[i]? = some f := by simpa using hi
        have := hall i f hi'
        have hlt : i < fs.size := (Array.getElem?_eq_some_iff.1 hi').1
        rw [List.getElem?_eq_getElem (by omega)] at this
        exact ⟨_, this⟩
      rw [List.drop_zero, hl, ← hlen, List.take_length] at this
      exact this
    · cases h
end
/-! ### Taking it apart -/
theorem Fit.nil_inv {w : World} {c : List Value} (h : Fit w [] c) : c = [] := by cases c with | nil => rfl | cons _ _ => exact h.elim
theorem Fit.int_inv {w : World} {k : IntKind} {s : List Sh} {c : List Value} (h : Fit w (.fl (.i k) :: s) c) : ∃ n c', c = .int k n :: c' ∧ (Lit.int k n).wf = true ∧ Fit w s c' := by
  cases c with
  | nil => exact h.elim
  | cons v c => cases v with
    | int k' n => obtain ⟨rfl, h1, h2⟩ := h; exact ⟨n, c, rfl, h1, h2⟩
    | _ => exact h.elim
theorem Fit.bool_inv {w : World} {s : List Sh} {c : List Value} (h : Fit w (.fl .b :: s) c) : ∃ n c', c = .bool n :: c' ∧ Fit w s c' := by
  cases c with
  | nil => exact h.elim
  | cons v c => cases v with
    | bool n => exact ⟨n, c, rfl, h⟩
    | _ => exact h.elim
theorem Fit.sl_inv {w : World} {sz : Nat} {es : List S0} {s : List Sh} {c : List Value} (h : Fit w (.sl sz es :: s) c) : ∃ v c', c = v :: c' ∧ SlcAt w sz es v ∧ Fit w s c' := by
  cases c with
  | nil => exact h.elim
  | cons v c => exact ⟨v, c, rfl, h.1, h.2⟩
theorem Fit0.nil_inv {c : List Value} (h : Fit0 [] c) : c = [] := by cases c with | nil => rfl | cons _ _ => exact h.elim
theorem Fit0.int_inv {k : IntKind} {s : List S0} {c : List Value} (h : Fit0 (.i k :: s) c) : ∃ n c', c = .int k n :: c' ∧ (Lit.int k n).wf = true ∧ Fit0 s c' := by
  cases c with
  | nil => exact h.elim
  | cons v c => cases v with
    | int k' n => obtain ⟨rfl, h1, h2⟩ := h; exact ⟨n, c, rfl, h1, h2⟩
    | _ => exact h.elim
/-! ### Slices as lists -/
theorem cells?_cell {w : World} {a : Addr} {n : Nat} {cs : List Value} (h : w.cells? 0 a n = some cs) : cs.length = n ∧ ∀ i, i < n → w.cell? (a.add i) = cs[i]? := by
  unfold World.cells? at h
  rw [if_pos (Nat.zero_le _)] at h
  refine ⟨by simpa using mapM_some_length h, fun i hi => ?_⟩
  have := mapM_some_get h i i (by simp [hi])
  exact this
/-- A slice that reads as a list: where it lies, and what goes with it. -/
theorem SlcAt.list {X : Type} {w : World} {sz : Nat} {es : List S0} {v : Value} (h : SlcAt w sz es v) (hsz : 0 < sz) (c : X → List Value) (hc : ∀ cs, Fit0 es cs → ∃ x, c x = cs) (hlen : ∀ x, (c x).length = sz) (hpf : ∀ x, ∀ u ∈ c x, isFlat u = true) (hw : 0 < w.heap.size)
    (hok : ∀ a len cap, v = .slice (some a) len cap → a.spot = none ∧ a.block < w.heap.size) :
    ∃ (L : List X) (l : Loc) (cap : Nat), l.blk < w.heap.size ∧ (∀ ρ : Emb, OR ρ (.rom (encL c L) .loose) l w) ∧ (∀ (ρ : Emb) (b : Nat), ρ b = some l → VR ρ (.slice (some ⟨b, 0, none⟩) L.length cap) v) := by
  rcases h with rfl | ⟨a, len, cap, rfl, hel⟩
  · exact ⟨[], ⟨0, 0, 0, 1⟩, 0, hw, fun ρ => .inl ⟨rfl, rfl⟩, fun ρ b hb => .slcn b 0 0 _ hb rfl (by decide)⟩
  · obtain ⟨hspot, hblk⟩ := hok a len cap rfl
    obtain ⟨B, off, spot⟩ := a
    simp only at hspot hblk
    subst hspot
    have hx : ∀ n, n ≤ len → ∃ L : List X, L.length = n ∧ ∀ i x, L[i]? = some x → w.cells? 0 ((⟨B, off, none⟩ : Addr).add (i * sz)) sz = some (c x) := by
      intro n
      induction n with
      | zero => intro _; exact ⟨[], rfl, fun i x h => by simp at h⟩
      | succ n ih =>
        intro hn
        obtain ⟨L, h1, h2⟩ := ih (by omega)
        obtain ⟨cs, h3, h4⟩ := hel n (by omega)
        obtain ⟨x, rfl⟩ := hc cs h4
        refine ⟨L ++ [x], by simp [h1], fun i y hi => ?_⟩
        rcases Nat.lt_or_ge i n with hlt | hge
        · rw [List.getElem?_append_left (by omega)] at hi
          exact h2 i y hi
        · have : i = n := by
            have := (List.getElem?_eq_some_iff.1 hi).1
            simp [h1] at this
            omega
          subst this
          rw [List.getElem?_append_right (by omega)] at hi
          simp [h1] at hi
          subst hi
          exact h3
    obtain ⟨L, hL, hall⟩ := hx len (Nat.le_refl _)
    refine ⟨L, ⟨B, off, 0, 0⟩, cap, hblk, fun ρ => ?_, fun ρ b hb => ?_⟩
    · by_cases h0 : L = []
      · left; subst h0; exact ⟨rfl, rfl⟩
      · right
        have hne : 0 < len := by rw [← hL]; exact List.length_pos_iff.2 h0
        have h00 : L[0]? = some (L[0]'(by omega)) := List.getElem?_eq_getElem (by omega)
        have hc0 := (cells?_cell (hall 0 _ h00)).2 0 hsz
        have hblock : ∃ c' e fz, w.heap[B]? = some (.cells c' e fz) := by
          rw [List.getElem?_eq_getElem (by rw [hlen]; exact hsz)] at hc0
          simp only [Nat.zero_mul, Addr.add, if_true] at hc0
          unfold World.cell? at hc0
          split at hc0
          · rename_i c' e fz hb; exact ⟨c', e, fz, hb⟩
          · cases hc0
        obtain ⟨c', e, fz, hb⟩ := hblock
        refine ⟨c', e, fz, hb, ?_, fun _ => rfl⟩
        intro j u hj
        have hlt : j < (encL c L).length := (List.getElem?_eq_some_iff.1 hj).1
        have hel : (encL c L).length = L.length * sz := by
          clear hall hlt hj hL h0 h00 hc0
          induction L with
          | nil => simp [encL]
          | cons x L ih =>
            have : encL c (x :: L) = c x ++ encL c L := by simp [encL]
            rw [this, List.length_append, ih, hlen, List.length_cons, Nat.succ_mul, Nat.add_comm]
        have hq : j / sz < L.length := by rw [Nat.div_lt_iff_lt_mul hsz, ← hel]; exact hlt
        have hr : j % sz < sz := Nat.mod_lt _ hsz
        have hj' : j / sz * sz + j % sz = j := by rw [Nat.mul_comm]; exact Nat.div_add_mod j sz
        have hget := encL_get hlen (L[j / sz]) L (j / sz) (j % sz) hq hr
        rw [hj', hj] at hget
        have hgd : L.getD (j / sz) (L[j / sz]) = L[j / sz] := by simp [List.getD, List.getElem?_eq_getElem hq]
        rw [hgd] at hget
        have hcell := (cells?_cell (hall (j / sz) _ (List.getElem?_eq_getElem hq))).2 (j % sz) hr
        rw [← hget, Go.WideShapes.add_plain] at hcell
        have hcell : w.cell? ⟨B, off + j, none⟩ = some u := by
          have ha : (⟨B, off + j / sz * sz, none⟩ : Addr).add (j % sz) = ⟨B, off + j, none⟩ := by
            rw [Go.WideShapes.add_plain]
            simp only [Addr.mk.injEq, and_true, true_and]
            omega
          rw [ha] at hcell
          exact hcell
        refine ⟨u, ?_, .flat _ (hpf _ u (List.mem_of_getElem? hget.symm))⟩
        unfold World.cell? at hcell
        rw [hb] at hcell
        simpa using hcell
    · have := VR.slc (ρ := ρ) b 0 len cap cap ⟨B, off, 0, 0⟩ hb (.inl rfl)
      rw [hL]
      exact this
end Go.Sim
