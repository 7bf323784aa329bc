/- From a contract to the row of a law. No conditions. -/
import Derived.Test.YtfgdbanigkfjlaaDoorCards
import Derived.Test.YtfgdbanigkfjlaaDoorTie
import Derived.SevenTiedAt
import Derived.Test.YtfgdbanigkfjlaaDoorRb
namespace Go.Proofs.G2
open Go Go.Sim Go.Proofs Go.Proofs.YtfgdbanigkfjlaaDoor Go.RowKit Go.ChangeShapes Go.WideShapes Go.ChangeAt Go.WideMaps Go.WideElems
set_option maxRecDepth 20000
theorem door_met (os : Os) (args : Array Value) : laidMetH P laidK ((World.doorLaid P 400 os).forCall (fun _ _ => 0) ⟨#[], args, []⟩).memory :=
  laidMetH_of_parts3 (fuel := 8) (laidMet_of_run' 8 (by kernel_rfl) (by kernel_rfl)) (by kernel_rfl) (by kernel_rfl)
/-- What a law that says true and leaves all as it was meets. -/
theorem post_true {W W' : World} {H : Type} {enc : TypeId × Value → H} {fn : Func} {s : ChangeSpec} {args : Array Value} {ds gs : List (DataW H)} {before : List MemPlace} (hvars : s.vars = [])
    (hs : ∀ ds gs before, DataW.Whole enc P fn.params.toList s.vars false W args.toList ds gs before → (s.fn H (ds ++ gs)) = { results := [.lit (.bool true)], args := ds, vars := [] })
    (hr : fn.resultTypes = #[4]) (hall : ∀ t ∈ fn.params.toList, P.readableRec t = true ∧ t < P.types.size) (hlaid : laidOutB P = true)
    (hW : DataW.Whole enc P fn.params.toList s.vars false W args.toList ds gs before) (hb : Below W.heap.size W W') :
    s.post enc P fn false true false false W args (.bool true) W' := by
  have hlt : ∀ x ∈ before, x.block < W.heap.size := fun x hx => by simpa using hW.lt x hx
  have hfn := hs ds gs before hW
  obtain ⟨p, q, hA, hV, hpq, hz, hn⟩ := id hW
  rw [hvars] at hV
  obtain ⟨rfl, rfl⟩ := trodVars_none hV
  simp only [List.append_nil] at hpq
  subst hpq
  refine ⟨ds, [], before, [], before, [], hW, ?_, ?_, ?_, hb.frame _, fun h => by cases h⟩
  · rw [hfn, hr]
    exact trodAll_mk1 (shut_bool Tryd.underlying4 _)
  · rw [hfn]
    show DataW.TrodAll enc P W' 0 _ true fn.params.toList args.toList ds before
    have key : ∀ (ts : List TypeId) (vs : List Value) (ds : List (DataW H)) (ps : List MemPlace), (∀ t ∈ ts, P.readableRec t = true ∧ t < P.types.size) → (∀ x ∈ ps, x.block < W.heap.size) →
        DataW.TrodAll enc P W 0 (fun _ => true) true ts vs ds ps → DataW.TrodAll enc P W' 0 (fun b => decide (b < W.heap.size)) true ts vs ds ps := by
      intro ts
      induction ts with
      | nil =>
        intro vs ds ps _ _ h
        obtain ⟨rfl, rfl, rfl⟩ := trodAll_nil h
        exact trodAll_mk0
      | cons t ts ih =>
        intro vs ds ps ht hl h
        obtain ⟨v, vs', d, ds', a, b, rfl, rfl, rfl, h1, h2⟩ := trodAll_cons h
        have h0 := ht t (by simp)
        exact ⟨a, b, Below.trod hlaid h0.1 h0.2 h1 hb (fun x hx => hl x (by simp [hx])), ih _ _ _ (fun t' h' => ht t' (by simp [h'])) (fun x hx => hl x (by simp [hx])) h2, rfl⟩
    exact key _ _ _ _ hall hlt hA
  · rw [hvars]
    rw [hfn]
    rfl
theorem laidO : laidOutB P = true := by kernel_rfl
end Go.Proofs.G2
