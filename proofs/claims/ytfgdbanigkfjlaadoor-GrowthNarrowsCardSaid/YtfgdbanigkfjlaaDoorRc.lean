/- From a contract to the row of a law. No conditions. -/
import Derived.Test.YtfgdbanigkfjlaaDoorCards
import Derived.Test.YtfgdbanigkfjlaaDoorTie
import Derived.SevenTiedAt
import Derived.Test.YtfgdbanigkfjlaaDoorRb
namespace Go.Proofs.G2
open Go Go.Sim Go.Proofs Go.Proofs.YtfgdbanigkfjlaaDoor Go.RowKit Go.ChangeShapes Go.WideShapes Go.ChangeAt Go.WideMaps Go.WideElems
set_option maxRecDepth 20000
theorem door_met (os : Os) (args : Array Value) : laidMetH P laidK ((World.doorLaid P 400 os).forCall (fun _ _ => 0) ⟨#[], args, []⟩).memory :=
  laidMetH_of_parts3 (fuel := 8) (laidMet_of_run' 8 (by kernel_rfl) (by kernel_rfl)) (by kernel_rfl) (by kernel_rfl)
/-- What a law that says true and leaves all as it was meets. -/
theorem post_true {W W' : World} {H : Type} {enc : TypeId × Value → H} {fn : Func} {s : ChangeSpec} {args : Array Value} {ds gs : List (DataW H)} {before : List MemPlace} (hvars : s.vars = [])
    (hs : ∀ ds gs before, DataW.Whole enc P fn.params.toList s.vars false W args.toList ds gs before → (s.fn H (ds ++ gs)) = { results := [.lit (.bool true)], args := ds, vars := [] })
    (hr : fn.resultTypes = #[4]) (hall : ∀ t ∈ fn.params.toList, P.readableRec t = true ∧ t < P.types.size) (hlaid : laidOutB P = true)
    (hW : DataW.Whole enc P fn.params.toList s.vars false W args.toList ds gs before) (hb : Below W.heap.size W W') :
    s.post enc P fn false true false false W args (.bool true) W' := by
  have hlt : ∀ x ∈ before, x.block < W.heap.size := fun x hx => by simpa using hW.lt x hx
  have hfn := hs ds gs before hW
  obtain ⟨p, q, hA, hV, hpq, hz, hn⟩ := id hW
  rw [hvars] at hV
  obtain ⟨rfl, rfl⟩ := trodVars_none hV
  simp only [List.append_nil] at hpq
  subst hpq
  refine ⟨ds, [], before, [], before, [], hW, ?_, ?_, ?_, hb.frame _, fun h => by cases h⟩
  · rw [hfn, hr]
    exact trodAll_mk1 (shut_bool Tryd.underlying4 _)
  · rw [hfn]
    show DataW.TrodAll enc P W' 0 _ true fn.params.toList args.toList ds before
    have key : ∀ (ts : List TypeId) (vs : List Value) (ds : List (DataW H)) (ps : List MemPlace), (∀ t ∈ ts, P.readableRec t = true ∧ t < P.types.size) → (∀ x ∈ ps, x.block < W.heap.size) →
        DataW.TrodAll enc P W 0 (fun _ => true) true ts vs ds ps → DataW.TrodAll enc P W' 0 (fun b => decide (b < W.heap.size)) true ts vs ds ps := by
      intro ts
      induction ts with
      | nil =>
        intro vs ds ps _ _ h
        obtain ⟨rfl, rfl, rfl⟩ := trodAll_nil h
        exact trodAll_mk0
      | cons t ts ih =>
        intro vs ds ps ht hl h
        obtain ⟨v, vs', d, ds', a, b, rfl, rfl, rfl, h1, h2⟩ := trodAll_cons h
        have h0 := ht t (by simp)
        exact ⟨a, b, Below.trod hlaid h0.1 h0.2 h1 hb (fun x hx => hl x (by simp [hx])), ih _ _ _ (fun t' h' => ht t' (by simp [h'])) (fun x hx => hl x (by simp [hx])) h2, rfl⟩
    exact key _ _ _ _ hall hlt hA
  · rw [hvars]
    rw [hfn]
    rfl
theorem laidO : laidOutB P = true := by kernel_rfl
end Go.Proofs.G2
namespace Go.Proofs.G2
open Go Go.Sim Go.Proofs Go.Proofs.YtfgdbanigkfjlaaDoor Go.RowKit Go.ChangeShapes Go.WideShapes Go.ChangeAt Go.WideMaps Go.WideElems
set_option maxRecDepth 20000
theorem _root_.Go.Sim.Fit0.bool_inv {s : List S0} {c : List Value} (h : Fit0 (.b :: s) c) : ∃ n c', c = .bool n :: c' ∧ Fit0 s c' := by
  cases c with
  | nil => exact h.elim
  | cons v c => cases v with
    | bool n => exact ⟨n, c, rfl, h⟩
    | _ => exact h.elim
/-- Where the rows lie that came in. -/
def rhoL : List (Nat × Sim.Loc) → Emb
  | [], _ => none
  | p :: l, b => if b = p.1 then some p.2 else rhoL l b
theorem species_at {W : World} {H : Type} {enc : TypeId × Value → H} {base : Nat} {v : Value} {d : DataW H} {p : List MemPlace} (hv : Value.okWide P W .any base 26 v) (h : DataW.Trod enc P W 0 (fun _ => true) true 26 v d p) (hW : 0 < W.heap.size) :
    ∃ (s : XSpecies) (q10 q11 q12 q13 : Nat) (l0 l1 l2 l3 : Sim.Loc), (∀ ρ : Emb, ρ 10 = some l0 → ρ 11 = some l1 → ρ 12 = some l2 → ρ 13 = some l3 → VR ρ (spc s q10 q11 q12 q13) v) ∧
      (l0.blk < W.heap.size ∧ ∀ ρ : Emb, OR ρ (.rom (encL cInt s.Rise) .loose) l0 W) ∧ (l1.blk < W.heap.size ∧ ∀ ρ : Emb, OR ρ (.rom (encL cInt s.Thick) .loose) l1 W) ∧ (l2.blk < W.heap.size ∧ ∀ ρ : Emb, OR ρ (.rom (encL cXRung s.Ladder) .loose) l2 W) ∧ (l3.blk < W.heap.size ∧ ∀ ρ : Emb, OR ρ (.rom (encL cXSpan s.Sprouts) .loose) l3 W) := by
  obtain ⟨cs, rfl, _⟩ := okWide_struct Tryd.underlying26 hv
  obtain ⟨f, hf⟩ := h
  have h := shape_fit 8 26 _ f _ _ sh26 hf
  obtain ⟨a0, c, e, s0, h⟩ := h.sl_inv
  obtain ⟨a1, c, rfl, s1, h⟩ := h.sl_inv
  obtain ⟨n2, c, rfl, _, h⟩ := h.int_inv
  obtain ⟨n3, c, rfl, _, h⟩ := h.int_inv
  obtain ⟨n4, c, rfl, _, h⟩ := h.int_inv
  obtain ⟨n5, c, rfl, _, h⟩ := h.int_inv
  obtain ⟨a6, c, rfl, s6, h⟩ := h.sl_inv
  obtain ⟨a7, c, rfl, s7, h⟩ := h.sl_inv
  cases h.nil_inv
  have ev := toList_agg e
  rw [ev] at hv ⊢
  obtain ⟨L0, l0, c0, b0, m0, v0⟩ := s0.list (by decide) cInt cInt_of (fun _ => rfl) cInt_flat hW (fun a len cap h => slice_ok Tryd.underlying22 (h ▸ row_cell Tryd.underlying26 hv ct26 (i := 0) rfl (by decide) rfl))
  obtain ⟨L1, l1, c1, b1, m1, v1⟩ := s1.list (by decide) cInt cInt_of (fun _ => rfl) cInt_flat hW (fun a len cap h => slice_ok Tryd.underlying22 (h ▸ row_cell Tryd.underlying26 hv ct26 (i := 1) rfl (by decide) rfl))
  obtain ⟨L6, l6, c6, b6, m6, v6⟩ := s6.list (by decide) cXRung cXRung_of (fun _ => rfl) cXRung_flat hW (fun a len cap h => slice_ok Tryd.underlying23 (h ▸ row_cell Tryd.underlying26 hv ct26 (i := 6) rfl (by decide) rfl))
  obtain ⟨L7, l7, c7, b7, m7, v7⟩ := s7.list (by decide) cXSpan cXSpan_of (fun _ => rfl) cXSpan_flat hW (fun a len cap h => slice_ok Tryd.underlying24 (h ▸ row_cell Tryd.underlying26 hv ct26 (i := 7) rfl (by decide) rfl))
  refine ⟨⟨L0, L1, n2, n3, n4, n5, L6, L7⟩, c0, c1, c6, c7, l0, l1, l6, l7, fun ρ e0 e1 e6 e7 => ?_, ⟨b0, m0⟩, ⟨b1, m1⟩, ⟨b6, m6⟩, ⟨b7, m7⟩⟩
  refine .agg _ _ ?_
  exact .cons _ _ _ _ (v0 _ 10 e0) (.cons _ _ _ _ (v1 _ 11 e1) (.cons _ _ _ _ (.flat _ rfl) (.cons _ _ _ _ (.flat _ rfl) (.cons _ _ _ _ (.flat _ rfl) (.cons _ _ _ _ (.flat _ rfl) (.cons _ _ _ _ (v6 _ 12 e6) (.cons _ _ _ _ (v7 _ 13 e7) .nil)))))))
end Go.Proofs.G2
