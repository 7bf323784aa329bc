/- Inputs of the laws and what goes with them. No conditions. -/
import Derived.Test.YtfgdbanigkfjlaaDoorRows
import Derived.Stop.Joined
import Derived.Test.YtfgdbanigkfjlaaDoorGc
import Derived.Test.YtfgdbanigkfjlaaDoorRa
namespace Go.Proofs.G2
open Go Go.Sim Go.Proofs Go.Proofs.YtfgdbanigkfjlaaDoor Go.RowKit Go.ChangeShapes Go.WideShapes Go.ChangeAt Go.WideMaps Go.WideElems

set_option maxRecDepth 20000
theorem own : ownKnob Tryd.prog.godebug = none := by kernel_rfl
theorem gK : Tryd.prog.globalNamed "greenhew/growth.kinds" = some 0 := by kernel_rfl
theorem tK : (Tryd.prog.globals[0]?).map (·.type) = some 143 := by kernel_rfl
def laidK : List (String × DataW Unit) := [("greenhew/growth.kinds", Rows.laid_greenhew_growth_kinds)]
theorem gv_of_laid {W : World} (h : laidMetH Tryd.prog laidK W) : GV GG W := by
  rw [MakeChecks.laidMetH_plain _ _ _ (by kernel_rfl)] at h
  obtain ⟨ps, ⟨g0, t0, cs0, f0, p0, q0, hg0, ht0, hv0, hd0, _, _⟩, _, _⟩ := h
  obtain rfl := Option.some.inj (gK.symm.trans hg0)
  obtain rfl := Option.some.inj (tK.symm.trans ht0)
  obtain ⟨xs, m1, rfl, hx1, hlen, hn3, hel⟩ := DataW.trod_array Tryd.underlying143 hd0
  have c84 : Tryd.prog.cellsOf 84 = 1 := by kernel_rfl
  have c143 : Tryd.prog.cellsOf 143 = 3 := by kernel_rfl
  rw [c143] at hlen
  simp only [Prod.mk.injEq] at hx1
  have hx1 := hx1.1
  unfold Rows.laid_greenhew_growth_kinds at hx1
  match xs, hn3, hx1, hel with
  | [x0, x1, x2], _, hx1, hel =>
    simp only [List.map_cons, List.map_nil, DataW.agg.injEq, List.cons.injEq] at hx1
    obtain ⟨l0⟩ := cs0
    match l0, hlen with
    | [a, b, c], _ =>
      have k0 := hel 0 (by decide)
      have k1 := hel 1 (by decide)
      have k2 := hel 2 (by decide)
      simp only [c84] at k0 k1 k2
      obtain ⟨n0, e0, z0, _⟩ := DataW.trod_int Tryd.underlying84 (show DataW.trod _ Tryd.prog W 0 _ _ m1 84 _ = some x0 from k0)
      obtain ⟨n1, e1, z1, _⟩ := DataW.trod_int Tryd.underlying84 (show DataW.trod _ Tryd.prog W 0 _ _ m1 84 _ = some x1 from k1)
      obtain ⟨n2, e2, z2, _⟩ := DataW.trod_int Tryd.underlying84 (show DataW.trod _ Tryd.prog W 0 _ _ m1 84 _ = some x2 from k2)
      subst z0 z1 z2
      simp at e0 e1 e2 hx1
      obtain ⟨rfl, rfl, rfl⟩ := hx1
      subst e0 e1 e2
      have hb : ∃ c' e fz, W.heap[0]? = some (.cells c' e fz) := by
        have := World.var?_cell hg0 hv0 0
        unfold World.cell? at this
        split at this
        · rename_i c' e fz hb; exact ⟨c', e, fz, hb⟩
        · simp at this
      obtain ⟨c', e, fz, hb⟩ := hb
      intro p hp
      simp only [GG, List.mem_singleton] at hp
      subst hp
      refine ⟨rfl, c', e, fz, hb, fun j v hj => ?_⟩
      have := World.var?_cell hg0 hv0 j
      unfold World.cell? at this
      simp only [hb] at this
      simp at this
      rw [this]
      simpa using hj

/-! ### The law's row -/
theorem slice_ok {P : Program} {w : World} {r : Reach} {base : Nat} {u e : TypeId} {a : Addr} {len cap : Nat} (hu : P.underlying u = some (.slice e)) (h : Cell.okWide P w r base u (.slice (some a) len cap)) : a.spot = none ∧ a.block < w.heap.size := by
  simp only [Cell.okWide, hu, Cell.ok] at h
  obtain ⟨_, _, _, hs, row, cells, hsh, _⟩ := h
  refine ⟨hs, ?_⟩
  unfold World.shape? at hsh
  split at hsh
  · rename_i hb; exact (Array.getElem?_eq_some_iff.1 hb).1
  · cases hsh
theorem row_cell {P : Program} {w : World} {r : Reach} {base : Nat} {t : TypeId} {fs : Array Field} {cs : Array Value} {ts : List TypeId} (ht : P.underlying t = some (.struct fs)) (h : Value.okWide P w r base t (.agg cs)) (hts : P.cellTypes P.depth t = some ts) {i : Nat} {v : Value} {u : TypeId}
    (hi : cs[i]? = some v) (hlt : i < ts.length) (hu : ts[i]? = some u) : Cell.okWide P w r base u v := by
  simp only [Value.okWide, ht] at h
  obtain ⟨cs', e, hsz, ts', h1, ⟨n, hn⟩, hall⟩ := h
  cases e
  rw [hts] at h1
  cases h1
  obtain ⟨u', h2, h3⟩ := hall i v hi
  rw [Nat.mod_eq_of_lt hlt, hu] at h2
  cases h2
  exact h3
theorem cInt_of (cs : List Value) (h : Fit0 [.i .i64] cs) : ∃ x, cInt x = cs := by
  obtain ⟨n, c, rfl, _, h⟩ := h.int_inv
  cases h.nil_inv
  exact ⟨n, rfl⟩
theorem cXRung_of (cs : List Value) (h : Fit0 [.i .i64, .i .i64] cs) : ∃ x, cXRung x = cs := by
  obtain ⟨n, c, rfl, _, h⟩ := h.int_inv
  obtain ⟨m, c, rfl, _, h⟩ := h.int_inv
  cases h.nil_inv
  exact ⟨⟨n, m⟩, rfl⟩
theorem cXSpan_of (cs : List Value) (h : Fit0 [.i .i64, .i .i64] cs) : ∃ x, cXSpan x = cs := by
  obtain ⟨n, c, rfl, _, h⟩ := h.int_inv
  obtain ⟨m, c, rfl, _, h⟩ := h.int_inv
  cases h.nil_inv
  exact ⟨⟨n, m⟩, rfl⟩
theorem cInt_flat (x : Int) : ∀ u ∈ cInt x, isFlat u = true := by intro u hu; simp only [cInt, List.mem_cons, List.not_mem_nil, or_false] at hu; subst hu; rfl
theorem cXRung_flat (x : XRung) : ∀ u ∈ cXRung x, isFlat u = true := by intro u hu; simp only [cXRung, List.mem_cons, List.not_mem_nil, or_false] at hu; rcases hu with rfl | rfl <;> rfl
theorem cXSpan_flat (x : XSpan) : ∀ u ∈ cXSpan x, isFlat u = true := by intro u hu; simp only [cXSpan, List.mem_cons, List.not_mem_nil, or_false] at hu; rcases hu with rfl | rfl <;> rfl
theorem sh26 : shapeOf P 8 26 = some [.sl 1 [.i .i64], .sl 1 [.i .i64], .fl (.i .i64), .fl (.i .i64), .fl (.i .i64), .fl (.i .i64), .sl 2 [.i .i64, .i .i64], .sl 2 [.i .i64, .i .i64]] := by kernel_rfl
theorem sh46 : shapeOf P 8 46 = some [.fl (.i .i64), .fl (.i .i64), .fl (.i .i64), .fl (.i .i64), .fl (.i .i64), .fl (.i .i64), .fl (.i .i64), .fl (.i .i64)] := by kernel_rfl
theorem sh58 : shapeOf P 8 58 = some [.fl (.i .i64), .fl (.i .i64), .fl (.i .i64), .fl (.i .i64), .fl (.i .i64), .fl (.i .i64), .fl .b] := by kernel_rfl
theorem ct26 : P.cellTypes P.depth 26 = some [22, 22, 3, 3, 3, 3, 23, 24] := by kernel_rfl
abbrev okI (n : Int) : Prop := (Lit.int .i64 n).wf = true
theorem toList_agg {cs : Array Value} {l : List Value} (h : (Value.agg cs).cells.toList = l) : Value.agg cs = .agg l.toArray := by
  have : cs.toList = l := h
  rw [← this]
/-- A box that came in. -/
theorem box_in {W : World} {H : Type} {enc : TypeId × Value → H} {base : Nat} {v : Value} {d : DataW H} {p : List MemPlace} (hv : Value.okWide P W .any base 46 v) (h : DataW.Trod enc P W 0 (fun _ => true) true 46 v d p) :
    ∃ b : XBox, v = .agg #[I (b.Low.Age), I (b.Low.Shoots), I (b.Low.Height), I (b.Low.Girth), I (b.High.Age), I (b.High.Shoots), I (b.High.Height), I (b.High.Girth)] := by
  obtain ⟨cs, rfl, _⟩ := okWide_struct Tryd.underlying46 hv
  obtain ⟨f, hf⟩ := h
  have h := shape_fit 8 46 _ f _ _ sh46 hf
  obtain ⟨a, c, e, _, h⟩ := h.int_inv
  obtain ⟨b, c, rfl, _, h⟩ := h.int_inv
  obtain ⟨x2, c, rfl, _, h⟩ := h.int_inv
  obtain ⟨x3, c, rfl, _, h⟩ := h.int_inv
  obtain ⟨x4, c, rfl, _, h⟩ := h.int_inv
  obtain ⟨x5, c, rfl, _, h⟩ := h.int_inv
  obtain ⟨x6, c, rfl, _, h⟩ := h.int_inv
  obtain ⟨x7, c, rfl, _, h⟩ := h.int_inv
  cases h.nil_inv
  exact ⟨⟨⟨a, b, x2, x3⟩, ⟨x4, x5, x6, x7⟩⟩, toList_agg e⟩
theorem season_in {W : World} {H : Type} {enc : TypeId × Value → H} {base : Nat} {v : Value} {d : DataW H} {p : List MemPlace} (hv : Value.okWide P W .any base 58 v) (h : DataW.Trod enc P W 0 (fun _ => true) true 58 v d p) :
    ∃ q : XSeason, v = .agg #[I (q.Light.Low), I (q.Light.High), I (q.Browse.Low), I (q.Browse.High), I (q.Mild.Low), I (q.Mild.High), .bool (q.Cut)] := by
  obtain ⟨cs, rfl, _⟩ := okWide_struct Tryd.underlying58 hv
  obtain ⟨f, hf⟩ := h
  have h := shape_fit 8 58 _ f _ _ sh58 hf
  obtain ⟨a, c, e, _, h⟩ := h.int_inv
  obtain ⟨b, c, rfl, _, h⟩ := h.int_inv
  obtain ⟨x2, c, rfl, _, h⟩ := h.int_inv
  obtain ⟨x3, c, rfl, _, h⟩ := h.int_inv
  obtain ⟨x4, c, rfl, _, h⟩ := h.int_inv
  obtain ⟨x5, c, rfl, _, h⟩ := h.int_inv
  obtain ⟨x6, c, rfl, h⟩ := h.bool_inv
  cases h.nil_inv
  exact ⟨⟨⟨a, b⟩, ⟨x2, x3⟩, ⟨x4, x5⟩, x6⟩, toList_agg e⟩
/-- A species that came in: its lists lie in four rows. -/
def spc (s : XSpecies) (q10 q11 q12 q13 : Nat) : Value := .agg #[.slice (some ⟨10, 0, none⟩) (s.Rise.length) (q10), .slice (some ⟨11, 0, none⟩) (s.Thick.length) (q11), I (s.Top), I (s.Stout), I (s.Shade), I (s.Reach), .slice (some ⟨12, 0, none⟩) (s.Ladder.length) (q12), .slice (some ⟨13, 0, none⟩) (s.Sprouts.length) (q13)]
def rho4 (l0 l1 l2 l3 : Sim.Loc) : Emb := fun b => if b = 10 then some l0 else if b = 11 then some l1 else if b = 12 then some l2 else if b = 13 then some l3 else none
theorem species_in {W : World} {H : Type} {enc : TypeId × Value → H} {base : Nat} {v : Value} {d : DataW H} {p : List MemPlace} (hv : Value.okWide P W .any base 26 v) (h : DataW.Trod enc P W 0 (fun _ => true) true 26 v d p) (hW : 0 < W.heap.size) :
    ∃ (s : XSpecies) (q10 q11 q12 q13 : Nat) (ρ : Emb), VR ρ (spc s q10 q11 q12 q13) v ∧ MemR ρ [(10, encL cInt s.Rise), (11, encL cInt s.Thick), (12, encL cXRung s.Ladder), (13, encL cXSpan s.Sprouts)] W := by
  obtain ⟨cs, rfl, _⟩ := okWide_struct Tryd.underlying26 hv
  obtain ⟨f, hf⟩ := h
  have h := shape_fit 8 26 _ f _ _ sh26 hf
  obtain ⟨a0, c, e, s0, h⟩ := h.sl_inv
  obtain ⟨a1, c, rfl, s1, h⟩ := h.sl_inv
  obtain ⟨n2, c, rfl, _, h⟩ := h.int_inv
  obtain ⟨n3, c, rfl, _, h⟩ := h.int_inv
  obtain ⟨n4, c, rfl, _, h⟩ := h.int_inv
  obtain ⟨n5, c, rfl, _, h⟩ := h.int_inv
  obtain ⟨a6, c, rfl, s6, h⟩ := h.sl_inv
  obtain ⟨a7, c, rfl, s7, h⟩ := h.sl_inv
  cases h.nil_inv
  have ev := toList_agg e
  rw [ev] at hv ⊢
  obtain ⟨L0, l0, c0, b0, m0, v0⟩ := s0.list (by decide) cInt cInt_of (fun _ => rfl) cInt_flat hW (fun a len cap h => slice_ok Tryd.underlying22 (h ▸ row_cell Tryd.underlying26 hv ct26 (i := 0) rfl (by decide) rfl))
  obtain ⟨L1, l1, c1, b1, m1, v1⟩ := s1.list (by decide) cInt cInt_of (fun _ => rfl) cInt_flat hW (fun a len cap h => slice_ok Tryd.underlying22 (h ▸ row_cell Tryd.underlying26 hv ct26 (i := 1) rfl (by decide) rfl))
  obtain ⟨L6, l6, c6, b6, m6, v6⟩ := s6.list (by decide) cXRung cXRung_of (fun _ => rfl) cXRung_flat hW (fun a len cap h => slice_ok Tryd.underlying23 (h ▸ row_cell Tryd.underlying26 hv ct26 (i := 6) rfl (by decide) rfl))
  obtain ⟨L7, l7, c7, b7, m7, v7⟩ := s7.list (by decide) cXSpan cXSpan_of (fun _ => rfl) cXSpan_flat hW (fun a len cap h => slice_ok Tryd.underlying24 (h ▸ row_cell Tryd.underlying26 hv ct26 (i := 7) rfl (by decide) rfl))
  refine ⟨⟨L0, L1, n2, n3, n4, n5, L6, L7⟩, c0, c1, c6, c7, rho4 l0 l1 l6 l7, ?_, ?_⟩
  · refine .agg _ _ ?_
    exact .cons _ _ _ _ (v0 _ 10 rfl) (.cons _ _ _ _ (v1 _ 11 rfl) (.cons _ _ _ _ (.flat _ rfl) (.cons _ _ _ _ (.flat _ rfl) (.cons _ _ _ _ (.flat _ rfl) (.cons _ _ _ _ (.flat _ rfl) (.cons _ _ _ _ (v6 _ 12 rfl) (.cons _ _ _ _ (v7 _ 13 rfl) .nil)))))))
  · intro p hp
    simp only [List.mem_cons, List.not_mem_nil, or_false] at hp
    rcases hp with rfl | rfl | rfl | rfl
    · exact ⟨l0, rfl, b0, m0 _⟩
    · exact ⟨l1, rfl, b1, m1 _⟩
    · exact ⟨l6, rfl, b6, m6 _⟩
    · exact ⟨l7, rfl, b7, m7 _⟩
/-- A contract, as a call. -/
theorem FC.calls {G : Globals} {f : FuncId} {ca : List Value} {km : List (Nat × List Value)} {v : Value} (h : FC P G f ca km v) (hv : isFlat v = true) {W : World} (hg : GV G W) {ρ : Emb} (hm : MemR ρ km W) {args : Array Value} (ha : VRs ρ ca args.toList) :
    Calls P f args W fun e W' => e = .returned v ∧ Below W.heap.size W W' := by
  have := h ρ W args 0 hg hm ha
  rw [fen_none, callsIn_wide] at this
  intro cs
  obtain ⟨e, w', fr, ⟨v', rfl, hv', hs⟩, hrest⟩ := this cs
  exact ⟨_, w', fr, ⟨by rw [hv'.flat_eq hv], hs.os, hs.tape, hs.output, hs.size, hs.block⟩, hrest⟩
end Go.Proofs.G2
