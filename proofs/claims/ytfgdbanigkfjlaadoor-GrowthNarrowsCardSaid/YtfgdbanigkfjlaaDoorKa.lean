/- Operations and regions on memory that is known in part, with hints. No conditions. -/
import Derived.Laws.StructEq
import Derived.Test.YtfgdbanigkfjlaaDoorSb
/-
  Runs on known memory with values that are not known: one operation, with a hint, and what the hint asks.
-/
namespace Go.Sim
open Go.RowKit

/-! ### Slots that are not known -/
def isJunk (v : Value) : Bool :=
  match v with
  | .tuple a => match a.toList with
    | [_] => true
    | _ => false
  | _ => false
def SVR (ρ : Emb) (v u : Value) : Prop := isJunk v = true ∨ VR ρ v u
theorem SVR.mono {ρ ρ' : Emb} (hl : ρ.le ρ') {v u : Value} (h : SVR ρ v u) : SVR ρ' v u := h.imp id (·.mono hl)
theorem SVR.known {ρ : Emb} {v u : Value} (h : SVR ρ v u) (hj : isJunk v = false) : VR ρ v u := h.resolve_left (by rw [hj]; simp)
def TJ (ρ : Emb) (n : Nat) (T : Tr Value) (a : Array Value) : Prop := a.size = n ∧ n < bigger ∧ ∀ t, SVR ρ (slot T t) (a.getD t undef)
theorem TJ.mono {ρ ρ' : Emb} (hl : ρ.le ρ') {n : Nat} {T : Tr Value} {a : Array Value} (h : TJ ρ n T a) : TJ ρ' n T a := ⟨h.1, h.2.1, fun t => (h.2.2 t).mono hl⟩
theorem TJ.of {ρ : Emb} {n : Nat} {T : Tr Value} {a : Array Value} (h : TR ρ n T a) : TJ ρ n T a := ⟨h.1, h.2.1, fun t => .inr (h.2.2 t)⟩

/-! ### What is known of the package's variables -/
abbrev Globals := List (Nat × List Value)
def GV (G : Globals) (w : World) : Prop := ∀ p ∈ G, p.2.all isFlat = true ∧ ∃ (c' : Array Value) (e : TypeId) (fz : Nat × Nat), w.heap[p.1]? = some (.cells c' e fz) ∧ ∀ (j : Nat) (v : Value), p.2[j]? = some v → c'[j]? = some v
/-- All that was there is as it was. -/
structure Same (w w' : World) : Prop where
  os : w'.os = w.os
  tape : w'.tape = w.tape
  output : w'.output = w.output
  size : w.heap.size ≤ w'.heap.size
  block : ∀ k, k < w.heap.size → w'.heap[k]? = w.heap[k]?
theorem Same.refl (w : World) : Same w w := ⟨rfl, rfl, rfl, Nat.le_refl _, fun _ _ => rfl⟩
theorem Same.trans {a b c : World} (h : Same a b) (k : Same b c) : Same a c :=
  ⟨k.os.trans h.os, k.tape.trans h.tape, k.output.trans h.output, Nat.le_trans h.size k.size, fun i hi => (k.block i (Nat.lt_of_lt_of_le hi h.size)).trans (h.block i hi)⟩
theorem GV.same {G : Globals} {w w' : World} (h : GV G w) (s : Same w w') : GV G w' := by
  intro p hp
  obtain ⟨hf, c', e, fz, h1, h2⟩ := h p hp
  exact ⟨hf, c', e, fz, (s.block p.1 (Array.getElem?_eq_some_iff.1 h1).1).trans h1, h2⟩

/-! ### Contracts -/
/-- Memory that is handed in. -/
def MemR (ρ : Emb) (km : List (Nat × List Value)) (w : World) : Prop := ∀ p ∈ km, ∃ l, ρ p.1 = some l ∧ l.blk < w.heap.size ∧ OR ρ (.rom p.2 .loose) l w
/-- A call that leaves all as it was, and comes to a value; what it is handed may lie in memory. -/
def FC (P : Program) (G : Globals) (f : FuncId) (args : List Value) (km : List (Nat × List Value)) (v : Value) : Prop :=
  ∀ (ρ : Emb) (w : World) (args' : Array Value) (k : Nat), GV G w → MemR ρ km w → VRs ρ args args'.toList →
    CallsIn (fen none) k P f args' w fun e w' => ∃ v', e = .returned v' ∧ VR ρ v v' ∧ Same w w'

/-! ### One operation -/
section
variable {P : Program} {N : Prot} {w0 : World} {ρ : Emb} {M : AMem} {w : World}
theorem Rel.same (h : Rel N w0 ρ M w) {w' : World} (s : Same w w') : Rel N w0 ρ M w' :=
  ⟨⟨s.os.trans h.below.os, s.tape.trans h.below.tape, s.output.trans h.below.output, Nat.le_trans h.below.size s.size, fun k hk => (s.block k (h.base k hk)).trans (h.below.block k hk)⟩,
   fun k hk => Nat.lt_of_lt_of_le (h.base k hk) s.size, fun b l hb => let ⟨h1, h2⟩ := h.used b l hb; ⟨Nat.lt_of_lt_of_le h1 s.size, h2⟩,
   fun b o ho hl => let ⟨l, h1, h2, h3⟩ := h.obj b o ho hl; ⟨l, h1, h2.heap (s.block _ (h.used _ _ h1).1), h3⟩, h.inj, h.nxt, h.lim, h.glob, h.romG, h.romF, h.nul⟩

/-- What is asked of a program. -/
structure PF (P : Program) : Prop where
  zeros : zerosFine P
  mixed : P.follows .mixedOrders = true
/-- What comes out of an operation may be not known. -/
def OptS (ρ : Emb) (r r' : Option Value) : Prop := SVR ρ (r.getD undef) (r'.getD undef)
/-- What an operation comes to, in each world that goes with what is known. -/
structure OpS (P : Program) (N : Prot) (w0 : World) (o : Oper) (T : Tr Value) (M : AMem) (r : Option Value) (M' : AMem) : Prop where
  ok : okOper o = true
  roms : romsOk M o = true
  run : ∀ (ρ : Emb) (w : World) (a : Act) (ro' : Option Nat) (k : Nat) (next : Act → World → Prop) (Q : Exit → Act → World → Prop), Rel N w0 ρ M w → (∀ x ∈ o.op.operands, VR ρ (aenv T x) (a.eval x)) →
    (∀ ρ' r' w', ρ.le ρ' → OptS ρ' r r' → Rel N w0 ρ' M' w' → (quietOp o.op = true → M' = M ∧ w' = w ∧ ρ' = ρ) → next (a.put o.dst (r'.getD undef)) w') → o.wpIn (fen ro') k P a w next Q
theorem noneSound : Sound P N w0 Ex.none := ⟨fun _ _ _ _ _ _ _ _ _ _ h => (by cases h), fun _ _ _ _ _ _ _ _ _ _ h => (by cases h), fun _ _ _ _ _ h => (by cases h), fun _ _ _ _ _ h => (by cases h)⟩
theorem OpS.of_step (hz : PF P) {x : Nat} {o : Oper} {T : Tr Value} {r : Option Value} {M' : AMem} (hs : ostep P (exec P x) o T M = some (r, M')) : OpS P N w0 o T M r M' := by
  obtain ⟨h1, h2⟩ := ostep_ok hs
  exact ⟨h1, h2, fun ρ w a ro' k next Q hr henv hn => ostep_sound hz.zeros (exec_sound hz.zeros hz.mixed x) hs hr henv fun ρ' r' w' hle ho hr' hq => hn ρ' r' w' hle (.inr ho.getD) hr' hq⟩

/-- What is asked of a world that runs. -/
structure Fine (G : Globals) (N : Prot) (w0 : World) : Prop where
  glob : GV G w0
  prot : ∀ p ∈ G, N.F p.1
theorem Fine.now {G : Globals} (h : Fine G N w0) (hr : Rel N w0 ρ M w) : GV G w := by
  intro p hp
  obtain ⟨hf, c', e, fz, h1, h2⟩ := h.glob p hp
  exact ⟨hf, c', e, fz, (hr.below.block p.1 (h.prot p hp)).trans h1, h2⟩

/-- A call by its contract. -/
theorem OpS.of_call {o : Oper} {T : Tr Value} (hok : okOper o = true) (hrom : romsOk M o = true) {c : Call} (hc : acalled o.op = some c) {f : FuncId} {args : Array Value}
    (ha : acall P (aenv T) c M = some (.fn f args)) {v : Value}
    (hcall : ∀ (ρ : Emb) (w : World) (args' : Array Value) (k : Nat), Rel N w0 ρ M w → VRs ρ args.toList args'.toList → CallsIn (fen none) k P f args' w fun e w' => ∃ v', e = .returned v' ∧ VR ρ v v' ∧ Same w w') : OpS P N w0 o T M (some v) M := by
  refine ⟨hok, hrom, fun ρ w a ro' k next Q hr henv hn => ?_⟩
  have hok' := hok
  unfold okOper at hok'
  simp only [Bool.and_eq_true] at hok'
  have hnd : ∀ c, o.op ≠ .defer c := fun c e => by rw [e] at hok'; exact Bool.noConfusion (show false = true from hok'.1)
  have hsel : ∀ cs b, o.op ≠ .select cs b := fun cs b e => by rw [e] at hok'; exact Bool.noConfusion (show false = true from hok'.1)
  refine ⟨fun _ _ => trivial, ?_⟩
  rw [Oper.semAt_eq _ _ _ hnd, execOp_congr (ρ' := maskE o a.eval) o hsel (fun x hx => (maskE_in hx).symm)]
  have hE' := maskE_R henv
  have hcl := acalled_call hc
  have hloud := acalled_loud hc
  have hcongr : acall P (aenv T) c M = acall P (maskE o (aenv T)) c M := acall_congr (fun x hx => (maskE_in (by rw [hcl]; exact hx)).symm) M
  rw [hcongr] at ha
  have hex : execOp (maskE o a.eval) o = (do let d ← resolve (maskE o a.eval) c o.type; invoke d.target d.args) := by unfold execOp; rw [hcl]
  rw [hex]
  obtain ⟨as', h1, h2⟩ := acall_sound hr hE' ha o.type
  rw [h1]
  refine ⟨fun h => absurd h (by rw [fen_depth]; simp), ?_⟩
  have hcw : CallsIn (fen ro') (k - 1) P f as' w fun e w' => ∃ v', e = .returned v' ∧ VR ρ v v' ∧ Same w w' := hcall ρ w as' (k - 1) hr h2
  refine hcw.mono ?_
  rintro e w' ⟨v', rfl, hv, hs⟩
  exact hn ρ (some v') w' (Emb.le.refl _) (.inr hv) (Rel.same hr hs) (fun h => absurd h hloud)
/-! ### A variable that nobody tracks yet -/
def zeroOf (P : Program) (t : TypeId) : Option Value := match P.info? t with
  | some i => i.zero
  | none => none
theorem run_alloc {t : TypeId} {v : Value} (h : zeroOf P t = some v) (w : World) : (Instr.alloc t true (.tuple #[])).run P w = .ok (.pointer (some ⟨w.heap.size, 0, none⟩)) (w.alloc (.cells v.cells t (0, 0))) := by
  unfold zeroOf at h
  split at h
  rotate_left
  · cases h
  rename_i i hi
  unfold Instr.alloc
  unfold Go.zeroValue Go.typeInfo
  simp only [Sem.run_bind, run_program, Result.andThen_ok, hi, Sem.run_pure, h, Go.newVar, Go.newRow, run_newObj_alloc]
theorem lazy_run {o : Oper} {t : TypeId} {v : Value} (hop : o.op = .alloc t) (hz : zeroOf P t = some v) {a : Act} {ro' : Option Nat} {k : Nat} {next : Act → World → Prop} {Q : Exit → Act → World → Prop}
    (h : next (a.put o.dst (.pointer (some ⟨w.heap.size, 0, none⟩))) (w.alloc (.cells v.cells t (0, 0)))) : o.wpIn (fen ro') k P a w next Q := by
  refine ⟨fun _ _ => trivial, ?_⟩
  rw [Oper.semAt_eq _ _ _ (fun c e => by rw [hop] at e; cases e), show execOp a.eval o = (do pure (.value (← Instr.alloc t true (.tuple #[])))) by unfold execOp; rw [hop]]
  simp only [Sem.run_bind, run_alloc hz, Result.andThen_ok, Sem.run_pure]
  exact h
end
end Go.Sim
namespace Go.Sim
open Go.RowKit

/-! ### Other names for blocks -/
abbrev Ren := List (Nat × Nat × Nat)
def Ren.get : Ren → Nat → Option (Nat × Nat)
  | [], _ => none
  | p :: l, b => bif Nat.beq p.1 b then some p.2 else Ren.get l b
def Ren.emb (σ : Ren) : Emb := fun b => match σ.get b with
  | some (b', o) => some ⟨b', o, 0, 0⟩
  | none => none
theorem Ren.emb_sz {σ : Ren} {b : Nat} {l : Loc} (h : σ.emb b = some l) : l.sz = 0 := by
  unfold Ren.emb at h
  split at h
  · cases h; rfl
  · cases h
theorem Ren.emb_top {σ : Ren} {b : Nat} {l : Loc} (h : σ.emb b = some l) : l.top = 0 := by
  unfold Ren.emb at h
  split at h
  · cases h; rfl
  · cases h
def comp (σ : Emb) (ρ : Emb) : Emb := fun b => match σ b with
  | some l => match ρ l.blk with
    | some m => some ⟨m.blk, m.sh + l.sh, m.sz, m.top⟩
    | none => none
  | none => none
theorem comp_eq {σ ρ : Emb} {b : Nat} {l m : Loc} (h : σ b = some l) (h' : ρ l.blk = some m) : comp σ ρ b = some ⟨m.blk, m.sh + l.sh, m.sz, m.top⟩ := by unfold comp; simp only [h, h']
theorem comp_inv {σ ρ : Emb} {b : Nat} {l x : Loc} (h : σ b = some l) (h' : comp σ ρ b = some x) : ∃ m, ρ l.blk = some m ∧ x = ⟨m.blk, m.sh + l.sh, m.sz, m.top⟩ := by
  unfold comp at h'
  simp only [h] at h'
  split at h'
  · rename_i m hm; cases h'; exact ⟨m, hm, rfl⟩
  · cases h'
mutual
theorem VR.comp {σ ρ : Emb} (hz : ∀ b l, σ b = some l → l.sz = 0) (ht0 : ∀ b l, σ b = some l → l.top = 0) {v v' u : Value} : VR σ v v' → VR ρ v' u → VR (Sim.comp σ ρ) v u
  | .flat v h, k => by rw [k.flat_eq h]; exact .flat v h
  | .ptr b o l h, k => by
      obtain ⟨m, h1, _, rfl⟩ := k.ptr_inv
      have := comp_eq h h1
      have h2 := Sim.VR.ptr b o _ this
      rw [show m.sh + l.sh + o = m.sh + (l.sh + o) by omega] at h2
      exact h2
  | .slc b o n c c' l h hc, k => by
      have hsz := hz b l h
      have hcc : c = c' := by rcases hc with h1 | h1; exact h1; exact absurd hsz h1.1
      subst hcc
      cases k with
      | flat _ hf => exact Bool.noConfusion (show false = true from hf)
      | slc _ _ _ _ c2 m h1 hc2 =>
        have h2 := Sim.VR.slc (ρ := Sim.comp σ ρ) b o n c c2 _ (comp_eq h h1) (by
          rcases hc2 with e | ⟨e1, e2, e3⟩
          · exact .inl e
          · refine .inr ⟨e1, e2, ?_⟩
            show m.sh + l.sh + o + c2 * m.sz ≤ m.top
            omega)
        rw [show m.sh + l.sh + o = m.sh + (l.sh + o) by omega] at h2
        exact h2
      | slc0 _ _ x c2 m h1 hs hc2 => exact .slc0 b o x c2 ⟨m.blk, m.sh + l.sh, m.sz, m.top⟩ (comp_eq h h1) hs hc2
      | slcn _ _ _ m h1 hs ht => exact .slcn b o c ⟨m.blk, m.sh + l.sh, m.sz, m.top⟩ (comp_eq h h1) hs ht
  | .slc0 b o x c' l h hs hc, k => absurd (hz b l h) hs
  | .slcn b o c l h hs ht, k => absurd (ht0 b l h) ht
  | .map b B h, k => by
      cases k with
      | flat _ hf => exact Bool.noConfusion (show false = true from hf)
      | map _ B2 h1 => exact .map b B2 (comp_eq h h1)
  | .func f a c a' c' hy h1 h2, k => by
      cases k with
      | flat _ hf => exact Bool.noConfusion (show false = true from hf)
      | func _ _ _ a2 c2 hy2 k1 k2 => exact .func f a c a2 c2 hy (VRs.comp hz ht0 h1 k1) (VRs.comp hz ht0 h2 k2)
      | yield => exact absurd rfl (hy _)
  | .yield b B h, k => by
      cases k with
      | flat _ hf => exact Bool.noConfusion (show false = true from hf)
      | func _ _ _ a2 c2 hy2 k1 k2 => exact absurd rfl (hy2 _)
      | yield _ B2 h1 => exact .yield b B2 (comp_eq h h1)
  | .iface t v v' h, k => by
      cases k with
      | flat _ hf => exact Bool.noConfusion (show false = true from hf)
      | iface _ _ u h1 => exact .iface t v u (VR.comp hz ht0 h h1)
  | .agg l l' h, k => by
      cases k with
      | flat _ hf => exact Bool.noConfusion (show false = true from hf)
      | agg _ l2 h1 => exact .agg l l2 (VRs.comp hz ht0 h h1)
  | .tuple l l' h, k => by
      cases k with
      | flat _ hf => exact Bool.noConfusion (show false = true from hf)
      | tuple _ l2 h1 => exact .tuple l l2 (VRs.comp hz ht0 h h1)
theorem VRs.comp {σ ρ : Emb} (hz : ∀ b l, σ b = some l → l.sz = 0) (ht0 : ∀ b l, σ b = some l → l.top = 0) {v v' u : List Value} : VRs σ v v' → VRs ρ v' u → VRs (Sim.comp σ ρ) v u
  | .nil, k => by cases k; exact .nil
  | .cons v v' l l' h hs, k => by
      cases k with
      | cons _ u _ l2 k1 k2 => exact .cons v u l l2 (VR.comp hz ht0 h k1) (VRs.comp hz ht0 hs k2)
end
mutual
theorem VR.back {σ ρ : Emb} (hz : ∀ b l, σ b = some l → l.sz = 0) (ht0 : ∀ b l, σ b = some l → l.top = 0) {v v' u : Value} : VR σ v v' → VR (Sim.comp σ ρ) v u → VR ρ v' u
  | .flat v h, k => by rw [k.flat_eq h]; exact .flat v h
  | .ptr b o l h, k => by
      obtain ⟨x, h1, _, rfl⟩ := k.ptr_inv
      obtain ⟨m, h2, rfl⟩ := comp_inv h h1
      have h3 := Sim.VR.ptr l.blk (l.sh + o) _ h2
      rw [show m.sh + (l.sh + o) = m.sh + l.sh + o by omega] at h3
      exact h3
  | .slc b o n c c' l h hc, k => by
      have hsz := hz b l h
      have hcc : c = c' := by rcases hc with h1 | h1; exact h1; exact absurd hsz h1.1
      subst hcc
      cases k with
      | flat _ hf => exact Bool.noConfusion (show false = true from hf)
      | slc _ _ _ _ c2 x h1 hc2 =>
        obtain ⟨m, h2, rfl⟩ := comp_inv h h1
        have h3 := Sim.VR.slc (ρ := ρ) l.blk (l.sh + o) n c c2 _ h2 (by
          rcases hc2 with e | ⟨e1, e2, e3⟩
          · exact .inl e
          · refine .inr ⟨e1, e2, ?_⟩
            have e3 : m.sh + l.sh + o + c2 * m.sz ≤ m.top := e3
            omega)
        rw [show m.sh + (l.sh + o) = m.sh + l.sh + o by omega] at h3
        exact h3
      | slc0 _ _ x c2 y h1 hs hc2 =>
        obtain ⟨m, h2, rfl⟩ := comp_inv h h1
        exact .slc0 l.blk (l.sh + o) x c2 m h2 hs hc2
      | slcn _ _ _ y h1 hs ht =>
        obtain ⟨m, h2, rfl⟩ := comp_inv h h1
        exact .slcn l.blk (l.sh + o) c m h2 hs ht
  | .slc0 b o x c' l h hs hc, k => absurd (hz b l h) hs
  | .slcn b o c l h hs ht, k => absurd (ht0 b l h) ht
  | .map b B h, k => by
      cases k with
      | flat _ hf => exact Bool.noConfusion (show false = true from hf)
      | map _ B2 h1 =>
        obtain ⟨m, h2, h3⟩ := comp_inv h h1
        cases m
        simp at h3
        obtain ⟨rfl, rfl, rfl, rfl⟩ := h3
        exact .map B _ h2
  | .func f a c a' c' hy h1 h2, k => by
      cases k with
      | flat _ hf => exact Bool.noConfusion (show false = true from hf)
      | func _ _ _ a2 c2 hy2 k1 k2 => exact .func f a' c' a2 c2 hy (VRs.back hz ht0 h1 k1) (VRs.back hz ht0 h2 k2)
      | yield => exact absurd rfl (hy _)
  | .yield b B h, k => by
      cases k with
      | flat _ hf => exact Bool.noConfusion (show false = true from hf)
      | func _ _ _ a2 c2 hy2 k1 k2 => exact absurd rfl (hy2 _)
      | yield _ B2 h1 =>
        obtain ⟨m, h2, h3⟩ := comp_inv h h1
        cases m
        simp at h3
        obtain ⟨rfl, rfl, rfl, rfl⟩ := h3
        exact .yield B _ h2
  | .iface t v v' h, k => by
      cases k with
      | flat _ hf => exact Bool.noConfusion (show false = true from hf)
      | iface _ _ u h1 => exact .iface t v' u (VR.back hz ht0 h h1)
  | .agg l l' h, k => by
      cases k with
      | flat _ hf => exact Bool.noConfusion (show false = true from hf)
      | agg _ l2 h1 => exact .agg l' l2 (VRs.back hz ht0 h h1)
  | .tuple l l' h, k => by
      cases k with
      | flat _ hf => exact Bool.noConfusion (show false = true from hf)
      | tuple _ l2 h1 => exact .tuple l' l2 (VRs.back hz ht0 h h1)
theorem VRs.back {σ ρ : Emb} (hz : ∀ b l, σ b = some l → l.sz = 0) (ht0 : ∀ b l, σ b = some l → l.top = 0) {v v' u : List Value} : VRs σ v v' → VRs (Sim.comp σ ρ) v u → VRs ρ v' u
  | .nil, k => by cases k; exact .nil
  | .cons v v' l l' h hs, k => by
      cases k with
      | cons _ u _ l2 k1 k2 => exact .cons v' u l' l2 (VR.back hz ht0 h k1) (VRs.back hz ht0 hs k2)
end
/-- The one memory lies within the other, from a cell on. -/
def MemAt (σ : Emb) (c0 : List Value) (off : Nat) (c : List Value) : Prop := ∀ j v0, c0[j]? = some v0 → ∃ v, c[off + j]? = some v ∧ VR σ v0 v
theorem MemAt.same (σ : Emb) {c : List Value} (h : ∀ v ∈ c, pf v = true) : MemAt σ c 0 c := fun j v0 hj => ⟨v0, by rw [Nat.zero_add]; exact hj, VR.of_pf (h _ (List.mem_of_getElem? hj))⟩
theorem MemAt.of {σ : Emb} {c0 c : List Value} {off : Nat} (h : VRs σ c0 ((c.drop off).take c0.length)) : MemAt σ c0 off c := fun j v0 hj => by
  obtain ⟨v, h1, h2⟩ := h.get j v0 hj
  have hlt := (List.getElem?_eq_some_iff.1 hj).1
  rw [List.getElem?_take_of_lt hlt, List.getElem?_drop] at h1
  exact ⟨v, h1, h2⟩
noncomputable def MemAll (σ : Ren) (M : AMem) : List (Nat × List Value) → Prop
  | [] => True
  | p :: l => (match σ.get p.1 with
    | some (b, o) => match M.get b with
      | some (.row c _) => MemAt σ.emb p.2 o c
      | some (.rom c _) => MemAt σ.emb p.2 o c
      | _ => False
    | none => False) ∧ MemAll σ M l
section
variable {P : Program} {N : Prot} {w0 : World} {ρ : Emb} {M : AMem} {w : World}
theorem MemAll.memR (hr : Rel N w0 ρ M w) {σ : Ren} : ∀ {km : List (Nat × List Value)}, MemAll σ M km → MemR (comp σ.emb ρ) km w := by
  intro km
  induction km with
  | nil => intro _ p hp; cases hp
  | cons q l ih =>
    intro h p hp
    rcases List.mem_cons.1 hp with rfl | hp
    rotate_left
    · exact ih h.2 p hp
    have h1 := h.1
    split at h1
    rotate_left
    · exact h1.elim
    rename_i b o hσ
    have he : σ.emb p.1 = some ⟨b, o, 0, 0⟩ := by unfold Ren.emb; simp only [hσ]
    have key0 : ∀ l3, MemAt σ.emb p.2 o [] → ρ b = some l3 → ∃ l, comp σ.emb ρ p.1 = some l ∧ l.blk < w.heap.size ∧ OR (comp σ.emb ρ) (.rom p.2 .loose) l w := by
      intro l3 hm hl
      refine ⟨_, comp_eq he hl, (hr.used _ _ hl).1, .inl ⟨?_, rfl⟩⟩
      cases hp2 : p.2 with
      | nil => rfl
      | cons v0 t =>
        obtain ⟨v, h2, _⟩ := hm 0 v0 (by rw [hp2]; rfl)
        simp at h2
    have key : ∀ c l3, MemAt σ.emb p.2 o c → ρ b = some l3 → (∃ c' e fz, w.heap[l3.blk]? = some (.cells c' e fz) ∧ CellsR ρ c l3.sh c') → ∃ l, comp σ.emb ρ p.1 = some l ∧ l.blk < w.heap.size ∧ OR (comp σ.emb ρ) (.rom p.2 .loose) l w := by
      intro c l3 hm hl ⟨c', e, fz, hw, hcl⟩
      refine ⟨_, comp_eq he hl, (hr.used _ _ hl).1, .inr ⟨c', e, fz, hw, ?_, fun h => by cases h⟩⟩
      intro j v0 hj
      obtain ⟨v, h2, h3⟩ := hm j v0 hj
      obtain ⟨u, h4, h5⟩ := hcl _ _ h2
      refine ⟨u, ?_, VR.comp (fun _ _ => Ren.emb_sz) (fun _ _ => Ren.emb_top) h3 h5⟩
      show c'[l3.sh + o + j]? = some u
      rw [Nat.add_assoc]
      exact h4
    split at h1
    · rename_i c sz hg
      obtain ⟨l3, h2, ⟨c', e, h4, h5, _⟩, _⟩ := hr.obj _ _ hg rfl
      exact key c l3 h1 h2 ⟨c', e, _, h4, h5⟩
    · rename_i c g hg
      obtain ⟨l3, h2, hor, _⟩ := hr.obj _ _ hg rfl
      rcases hor with ⟨rfl, _⟩ | ⟨c', e, fz, h4, h5, _⟩
      · exact key0 l3 h1 h2
      · exact key c l3 h1 h2 ⟨c', e, fz, h4, h5⟩
    · exact h1.elim
/-- A contract, used where blocks have other names. -/
theorem FC.use {G : Globals} (hf : Fine G N w0) {f : FuncId} {ca : List Value} {km : List (Nat × List Value)} {v0 v : Value} (h : FC P G f ca km v0) {σ : Ren} {args : Array Value} (hargs : VRs σ.emb ca args.toList) (hmem : MemAll σ M km)
    (hv : VR σ.emb v0 v) (ρ : Emb) (w : World) (args' : Array Value) (k : Nat) (hr : Rel N w0 ρ M w) (ha : VRs ρ args.toList args'.toList) :
    CallsIn (fen none) k P f args' w fun e w' => ∃ v', e = .returned v' ∧ VR ρ v v' ∧ Same w w' := by
  refine (h (comp σ.emb ρ) w args' k (hf.now hr) (hmem.memR hr) (VRs.comp (fun _ _ => Ren.emb_sz) (fun _ _ => Ren.emb_top) hargs ha)).mono ?_
  rintro e w' ⟨v', he, hv', hs⟩
  exact ⟨v', he, VR.back (fun _ _ => Ren.emb_sz) (fun _ _ => Ren.emb_top) hv hv', hs⟩
end
end Go.Sim
namespace Go.Sim
open Go.RowKit

/-! ### Calls that come to something new -/
section
variable {P : Program} {N : Prot} {w0 : World} {ρ : Emb} {M : AMem} {w : World}
/-- A block that nobody tracked is tracked from now on, wherever it lies. -/
theorem Rel.adoptL (h : Rel N w0 ρ M w) (hlim : Nat.succ M.nxt < bigger) {o : AObj} {l0 : Loc} (hB : l0.blk < w.heap.size) (hnF : ¬ N.F l0.blk) (hfree : ∀ b o l, M.get b = some o → o.live = true → o.rom? = false → ρ b = some l → l.blk ≠ l0.blk)
    (hro : o.rom? = false) (hnul : o.nul? = false → l0.sz = 0 → l0.top = 0) (hOR : o.live = true → OR (ext ρ M.nxt l0) o l0 w) :
    ρ.le (ext ρ M.nxt l0) ∧ Rel N w0 (ext ρ M.nxt l0) (M.alloc o) w := by
  have hle := ext_le (l := l0) h.fresh
  refine ⟨hle, h.below, h.base, ?_, ?_, ?_, ?_, hlim, ?_, ?_, ?_, ?_⟩
  · intro b l hb
    rw [AMem.get_alloc h.lim]
    unfold ext at hb
    split at hb
    · rename_i e; cases hb; exact ⟨hB, by rw [if_pos e]; exact ⟨_, rfl⟩⟩
    · rename_i e; obtain ⟨h1, h2⟩ := h.used b l hb; exact ⟨h1, by rw [if_neg e]; exact h2⟩
  · intro b p hb hl
    rw [AMem.get_alloc h.lim] at hb
    split at hb
    · rename_i e; subst e; cases hb; exact ⟨_, ext_self _ _ _, hOR hl, fun _ => hnF⟩
    · obtain ⟨l, h1, h2, h3⟩ := h.obj b p hb hl
      exact ⟨l, hle _ _ h1, h2.mono hle, h3⟩
  · intro b b' p p' l l' h1 h2 v1 v2 m1 m2 r1 r2 hne
    rw [AMem.get_alloc h.lim] at h1 h2
    unfold ext at r1 r2
    by_cases e1 : b = M.nxt
    · rw [if_pos e1] at r1
      cases r1
      by_cases e2 : b' = M.nxt
      · exact absurd (e1.trans e2.symm) hne
      · rw [if_neg e2] at r2 h2
        exact (hfree b' p' l' h2 v2 m2 r2).symm
    · rw [if_neg e1] at r1 h1
      by_cases e2 : b' = M.nxt
      · rw [if_pos e2] at r2
        cases r2
        exact hfree b p l h1 v1 m1 r1
      · rw [if_neg e2] at r2 h2
        exact h.inj b b' p p' l l' h1 h2 v1 v2 m1 m2 r1 r2 hne
  · intro b p hb
    rw [AMem.get_alloc h.lim] at hb
    show b < Nat.succ M.nxt
    split at hb
    · omega
    · have := h.nxt b p hb; omega
  · intro b c hb
    rw [AMem.get_alloc h.lim] at hb
    split at hb
    · cases hb; cases hro
    · exact hle _ _ (h.glob b c hb)
  · intro b c hb
    rw [AMem.get_alloc h.lim] at hb
    split at hb
    · cases hb; cases hro
    · exact h.romG b c hb
  · intro b p l hb hr hl
    rw [AMem.get_alloc h.lim] at hb
    split at hb
    · cases hb; rw [hro] at hr; cases hr
    · rename_i e
      refine h.romF b p l hb hr ?_
      unfold ext at hl
      rwa [if_neg e] at hl
  · intro b p l hb hn hl
    rw [AMem.get_alloc h.lim] at hb
    unfold ext at hl
    split at hb
    · rename_i e; rw [if_pos e] at hl; cases hl; cases hb; exact hnul hn
    · rename_i e; rw [if_neg e] at hl; exact h.nul b p l hb hn hl
/-- A call that leaves all as it was, and comes to a value that leads to a new row of plain cells. -/
def FCN (P : Program) (G : Globals) (f : FuncId) (args : List Value) (km : List (Nat × List Value)) (v : Value) (b : Nat) (c : List Value) (sz : Nat) : Prop :=
  (c.all pf = true ∧ ∀ p ∈ km, p.1 ≠ b) ∧ ∀ (ρ : Emb) (w : World) (args' : Array Value) (k : Nat), GV G w → MemR ρ km w → VRs ρ args args'.toList →
    CallsIn (fen none) k P f args' w fun e w' => ∃ (l : Loc) (v' : Value), e = .returned v' ∧ VR (ext (fun i => if i = b then none else ρ i) b l) v v' ∧ Same w w' ∧ w.heap.size ≤ l.blk ∧ l.blk < w'.heap.size ∧ (l.sz = 0 → l.top = 0) ∧ OR (fun _ => none) (.row c sz) l w'
theorem OR.of_pf {ρ ρ1 : Emb} {c : List Value} {sz : Nat} {l : Loc} (hc : c.all pf = true) (h : OR ρ1 (.row c sz) l w) : OR ρ (.row c sz) l w := by
  obtain ⟨c', e, h1, h2, h3⟩ := h
  refine ⟨c', e, h1, fun j v hj => ?_, h3⟩
  obtain ⟨u, h4, h5⟩ := h2 j v hj
  have hp := List.all_eq_true.1 hc v (List.mem_of_getElem? hj)
  exact ⟨u, h4, by rw [h5.pf_eq hp]; exact VR.of_pf hp⟩
/-- Such a contract, used where blocks have other names. -/
theorem FCN.use {G : Globals} (hf : Fine G N w0) {f : FuncId} {ca : List Value} {km : List (Nat × List Value)} {v0 v : Value} {b sz : Nat} {c : List Value} (h : FCN P G f ca km v0 b c sz) {σ : Ren} {args : Array Value} (hargs : VRs σ.emb ca args.toList) (hmem : MemAll σ M km)
    (hlim : Nat.succ M.nxt < bigger) (hv : VR (Ren.emb ((b, M.nxt, 0) :: σ)) v0 v) (ρ : Emb) (w : World) (args' : Array Value) (k : Nat) (hr : Rel N w0 ρ M w) (ha : VRs ρ args.toList args'.toList) :
    CallsIn (fen none) k P f args' w fun e w' => ∃ ρ' v', ρ.le ρ' ∧ e = .returned v' ∧ VR ρ' v v' ∧ Rel N w0 ρ' (M.alloc (.row c sz)) w' := by
  refine (h.2 (comp σ.emb ρ) w args' k (hf.now hr) (hmem.memR hr) (VRs.comp (fun _ _ => Ren.emb_sz) (fun _ _ => Ren.emb_top) hargs ha)).mono ?_
  rintro e w' ⟨l, v', he, hv', hs, hlo, hhi, hnul, hor⟩
  have hr' := Rel.same hr hs
  obtain ⟨hle, hr2⟩ := hr'.adoptL (o := .row c sz) (l0 := l) hlim hhi (fun hF => by have := hr.base _ hF; omega) (fun b' o' l' h1 h2 h3 h4 => by have := (hr.used b' l' h4).1; omega) rfl (fun _ => hnul) (fun _ => OR.of_pf h.1.1 hor)
  refine ⟨_, v', hle, he, ?_, hr2⟩
  refine VR.back (σ := Ren.emb ((b, M.nxt, 0) :: σ)) (fun _ _ => Ren.emb_sz) (fun _ _ => Ren.emb_top) hv (VR.mono ?_ hv')
  intro i li hi
  unfold ext at hi
  split at hi
  · rename_i e
    cases hi
    subst e
    have h1 : Ren.emb ((i, M.nxt, 0) :: σ) i = some ⟨M.nxt, 0, 0, 0⟩ := by
      unfold Ren.emb Ren.get
      rw [show Nat.beq (i, M.nxt, 0).1 i = true from Nat.beq_refl i]
      rfl
    rw [comp_eq h1 (ext_self ρ M.nxt l)]
    simp
  · rename_i hne
    simp only [if_neg hne] at hi
    have h1 : Ren.emb ((b, M.nxt, 0) :: σ) i = σ.emb i := by
      unfold Ren.emb
      rw [show Ren.get ((b, M.nxt, 0) :: σ) i = σ.get i by
        unfold Ren.get
        have : Nat.beq (b, M.nxt, 0).1 i = false := by
          cases hq : Nat.beq b i with
          | false => rfl
          | true => exact absurd (Nat.eq_of_beq_eq_true hq).symm hne
        rw [this]
        cases σ <;> rfl]
    cases hse : σ.emb i with
    | none => unfold comp at hi; rw [hse] at hi; cases hi
    | some l1 =>
      obtain ⟨m, hm, rfl⟩ := comp_inv hse hi
      rw [comp_eq (h1.trans hse) (hle _ _ hm)]
/-- A call by such a contract. -/
theorem OpS.of_callN {o : Oper} {T : Tr Value} (hok : okOper o = true) (hrom : romsOk M o = true) {c : Call} (hc : acalled o.op = some c) {f : FuncId} {args : Array Value}
    (ha : acall P (aenv T) c M = some (.fn f args)) {v : Value} {M' : AMem}
    (hcall : ∀ (ρ : Emb) (w : World) (args' : Array Value) (k : Nat), Rel N w0 ρ M w → VRs ρ args.toList args'.toList → CallsIn (fen none) k P f args' w fun e w' => ∃ ρ' v', ρ.le ρ' ∧ e = .returned v' ∧ VR ρ' v v' ∧ Rel N w0 ρ' M' w') : OpS P N w0 o T M (some v) M' := by
  refine ⟨hok, hrom, fun ρ w a ro' k next Q hr henv hn => ?_⟩
  have hok' := hok
  unfold okOper at hok'
  simp only [Bool.and_eq_true] at hok'
  have hnd : ∀ c, o.op ≠ .defer c := fun c e => by rw [e] at hok'; exact Bool.noConfusion (show false = true from hok'.1)
  have hsel : ∀ cs b, o.op ≠ .select cs b := fun cs b e => by rw [e] at hok'; exact Bool.noConfusion (show false = true from hok'.1)
  refine ⟨fun _ _ => trivial, ?_⟩
  rw [Oper.semAt_eq _ _ _ hnd, execOp_congr (ρ' := maskE o a.eval) o hsel (fun x hx => (maskE_in hx).symm)]
  have hE' := maskE_R henv
  have hcl := acalled_call hc
  have hloud := acalled_loud hc
  have hcongr : acall P (aenv T) c M = acall P (maskE o (aenv T)) c M := acall_congr (fun x hx => (maskE_in (by rw [hcl]; exact hx)).symm) M
  rw [hcongr] at ha
  have hex : execOp (maskE o a.eval) o = (do let d ← resolve (maskE o a.eval) c o.type; invoke d.target d.args) := by unfold execOp; rw [hcl]
  rw [hex]
  obtain ⟨as', h1, h2⟩ := acall_sound hr hE' ha o.type
  rw [h1]
  refine ⟨fun h => absurd h (by rw [fen_depth]; simp), ?_⟩
  have hcw : CallsIn (fen ro') (k - 1) P f as' w fun e w' => ∃ ρ' v', ρ.le ρ' ∧ e = .returned v' ∧ VR ρ' v v' ∧ Rel N w0 ρ' M' w' := hcall ρ w as' (k - 1) hr h2
  refine hcw.mono ?_
  rintro e w' ⟨ρ', v', hle, rfl, hv, hr'⟩
  exact hn ρ' (some v') w' hle (.inr hv) hr' (fun h => absurd h hloud)
end
end Go.Sim
namespace Go.Sim
open Go.RowKit

/-! ### Equality of structs of numbers -/
theorem frun_bind_eq {α β : Type} {P : Program} (s : Sem α) (f : α → Sem β) : frun P (s >>= f) = (frun P s).bind fun a => frun P (f a) := by
  induction s with
  | pure x => rfl
  | program k ih => exact ih P
  | mark m k ih => exact ih
  | _ => rfl
theorem frun_pure {α : Type} {P : Program} (a : α) : frun P (pure a : Sem α) = some a := rfl
theorem frun_ite {α : Type} {P : Program} {c : Prop} [Decidable c] (s t : Sem α) : frun P (if c then s else t) = if c then frun P s else frun P t := by split <;> rfl
theorem frun_underlying {P : Program} {t : TypeId} {d : TypeDesc} (h : P.underlying t = some d) : frun P (underlying t) = some d := by
  unfold Go.underlying
  simp only [frun_bind_eq]
  show (some P).bind _ = _
  simp only [Option.bind_some, h]
  rfl
theorem frun_program {P : Program} : frun P (program : Sem Program) = some P := rfl
noncomputable def eqFs (P : Program) (rec : TypeId → Value → Value → Option Bool) (xs ys : Array Value) : List Field → Option Bool
  | [] => some true
  | f :: fs => bif decide (f.name = "_") then eqFs P rec xs ys fs else match frun P (part f.type xs f.offset), frun P (part f.type ys f.offset) with
    | some a, some b => match rec f.type a b, eqFs P rec xs ys fs with
      | some p, some q => some (p && q)
      | _, _ => none
    | _, _ => none
noncomputable def eqF (P : Program) : Nat → TypeId → Value → Value → Option Bool
  | 0, _, _, _ => none
  | d + 1, t, x, y => match P.underlying t, x, y with
    | some .bool, .bool a, .bool b => some (a == b)
    | some (.int _), .int k a, .int k' b => bif Nat.beq (ikn k) (ikn k') then some (a == b) else none
    | some (.struct fs), .agg xs, .agg ys => bif P.stoodInHeld t then none else eqFs P (eqF P d) xs ys fs.toList
    | _, _, _ => none
theorem eqFs_sound {P : Program} {rec : TypeId → Value → Value → Option Bool} {D : Nat} (hrec : ∀ t x y b, rec t x y = some b → frun P (Op.equalIn D t x y) = some b) {xs ys : Array Value} : ∀ (fs : List Field) (b : Bool), eqFs P rec xs ys fs = some b →
    frun P (Op.eqFields D xs ys fs) = some b := by
  intro fs
  induction fs with
  | nil => intro b h; unfold eqFs at h; cases h; rfl
  | cons f fs ih =>
    intro b h
    unfold eqFs at h
    unfold Op.eqFields
    by_cases hn : f.name = "_"
    · rw [if_neg (by simp [hn])]
      rw [decide_eq_true hn] at h
      exact ih b h
    · rw [if_pos hn]
      rw [decide_eq_false hn] at h
      simp only [cond_false] at h
      split at h
      rotate_left
      · cases h
      rename_i a c ha hc
      split at h
      rotate_left
      · cases h
      rename_i p q hp hq
      cases h
      simp only [frun_bind_eq, ha, hc, Option.bind_some, hrec _ _ _ _ hp]
      cases p
      · simp [frun_pure]
      · simp [ih _ hq]
theorem frun_struct {P : Program} (d : Nat) (t : TypeId) (fs : Array Field) (xs ys : Array Value) (ht : P.underlying t = some (.struct fs)) (hp : P.stoodInHeld t = false) :
    frun P (Op.equalIn (d + 1) t (.agg xs) (.agg ys)) = frun P (Op.eqFields d xs ys fs.toList) := by
  simp only [Op.equalIn, frun_bind_eq, frun_underlying ht, Option.bind_some, frun_program, hp, Bool.false_eq_true, if_false]
  rw [← Array.forIn_toList]
  generalize fs.toList = l
  clear ht
  induction l with
  | nil => simp [Op.eqFields, frun_pure]
  | cons f l ih =>
    simp only [List.forIn_cons, Op.eqFields, frun_bind_eq, frun_ite]
    split
    · cases frun P (part f.type xs f.offset) with
      | none => rfl
      | some a =>
        cases frun P (part f.type ys f.offset) with
        | none => rfl
        | some b =>
          simp only [Option.bind_some]
          cases frun P (Op.equalIn d f.type a b) with
          | none => rfl
          | some r =>
            cases r
            · simp [frun_pure]
            · simp only [Option.bind_some, Bool.not_true, Bool.false_eq_true, if_false, frun_pure]
              exact ih
    · simp only [frun_pure, Option.bind_some]
      exact ih
theorem eqF_sound {P : Program} : ∀ (d D : Nat), d ≤ D → ∀ t x y b, eqF P d t x y = some b → frun P (Op.equalIn D t x y) = some b := by
  intro d
  induction d with
  | zero => intro D _ t x y b h; cases h
  | succ d ih =>
    intro D hD t x y b h
    obtain ⟨D, rfl⟩ : ∃ D', D = D' + 1 := ⟨D - 1, by omega⟩
    unfold eqF at h
    split at h
    · rename_i ht
      cases h
      simp only [Op.equalIn, frun_bind_eq, frun_underlying ht, Option.bind_some]
      rfl
    · rename_i k1 k a k' b' ht
      obtain ⟨hk, h⟩ := cond_some h
      cases h
      have hk := ikn_inj (Nat.eq_of_beq_eq_true hk)
      subst hk
      simp only [Op.equalIn, frun_bind_eq, frun_underlying ht, Option.bind_some, if_true]
      rfl
    · rename_i fs xs ys ht
      cases hs : P.stoodInHeld t with
      | true => rw [hs] at h; cases h
      | false =>
        rw [hs] at h
        rw [frun_struct D t fs xs ys ht hs]
        exact eqFs_sound (ih D (by omega)) _ _ h
    · cases h
/-- '==' and '!=' on structs. -/
theorem frun_eqOp {P : Program} {op : BinOp} {t : TypeId} {ox oy : Operand} {xs ys : Array Value} {d : Nat} {b : Bool} (hd : d ≤ 10000) (hop : op = .eql ∨ op = .neq) (hg : P.eqGuardType P.depth t = false) (h : eqF P d t (.agg xs) (.agg ys) = some b) :
    frun P (do eqGuard op t ox oy (.agg xs) (.agg ys); binOp op t (.agg xs) (.agg ys) : Sem Value) = some (.bool (if op = .eql then b else !b)) := by
  have he := eqF_sound d 10000 hd t _ _ b h
  rw [frun_bind_eq]
  have h1 : frun P (eqGuard op t ox oy (.agg xs) (.agg ys)) = some () := by
    rcases hop with rfl | rfl <;> simp [eqGuard, frun_bind_eq, frun_program, hg, frun_pure]
  rw [h1]
  simp only [Option.bind_some]
  rcases hop with rfl | rfl
  · simp only [binOp, Op.equal, Op.maxDepth, frun_bind_eq]
    simp only [he]
    rfl
  · simp only [binOp, Op.equal, Op.maxDepth, frun_bind_eq]
    simp only [he]
    rfl
end Go.Sim
namespace Go.Sim
open Go.RowKit

/-! ### Values without memory, however deep -/
def selfB : Nat → Value → Bool
  | 0, _ => false
  | d + 1, v => match v with
    | .agg l => l.toList.all (selfB d)
    | .tuple l => l.toList.all (selfB d)
    | v => isFlat v
theorem selfB_self : ∀ (d : Nat) (v : Value), selfB d v = true → Self v := by
  intro d
  induction d with
  | zero => intro v h; cases h
  | succ d ih =>
    intro v h ρ
    cases v with
    | agg l => exact .agg _ _ (VRs.selfs _ fun x hx => ih x (List.all_eq_true.1 h x hx))
    | tuple l => exact .tuple _ _ (VRs.selfs _ fun x hx => ih x (List.all_eq_true.1 h x hx))
    | _ => exact .flat _ h
/-! ### Hints -/
inductive Hn where
  | ev
  | eq
  | ld (v : Value)
  | ix
  | dv
  | cf (v : Value)
  | cm (v0 v : Value) (ca : List Value) (km : List (Nat × List Value)) (σ : Ren)
  | cn (v0 v : Value) (ca : List Value) (km : List (Nat × List Value)) (σ : Ren) (b : Nat) (c : List Value) (sz : Nat)
  | lz (v : Value)
  | lzs
  | inl
  | ed (z : Nat) (es : List Nat)
  | lc (ts bs : List Nat) (nxt : Nat) (e : AEx) (kn : List (Nat × Value)) (km : List (Nat × AObj))
structure Hint where
  h : Hn
  b : Option Bool
def All : List Prop → Prop
  | [] => True
  | p :: l => p ∧ All l
theorem All.append {l m : List Prop} : All (l ++ m) ↔ All l ∧ All m := by
  induction l with
  | nil => simp [All]
  | cons p l ih => simp [All, ih, and_assoc]
/-- What a row of cells is loaded as. -/
def RowLd (P : Program) (t : TypeId) (c : List Value) (off : Nat) (v : Value) : Prop :=
  ∀ (M : AMem) (b : Nat), (∃ sz, M.get b = some (.row c sz)) ∨ (∃ g, M.get b = some (.rom c g)) → arun P (Instr.loadAt t (.pointer (some ⟨b, off, none⟩))) M = some (v, M)
abbrev HOut := Option (Option Value × AMem × Bool × List Prop)
noncomputable def hload (P : Program) (t : TypeId) (a : Value) (v : Value) (M : AMem) : HOut :=
  match a with
  | .pointer (some ⟨b, off, none⟩) => match M.get b with
    | some (.row c _) => some (some v, M, false, [RowLd P t c off v])
    | some (.rom c _) => some (some v, M, false, [RowLd P t c off v])
    | _ => none
  | _ => none
noncomputable def hindex (P : Program) (t : TypeId) (x i : Value) (M : AMem) : HOut :=
  match P.underlying t, x, i with
  | some (.slice el), .slice (some ⟨b, off, none⟩) n _, .int _ j => match P.info? el with
    | some inf => some (some (.pointer (some ⟨b, off + j.toNat * inf.size, none⟩)), M, false, [0 ≤ j ∧ j < n])
    | none => none
  | some (.array n el), .pointer (some ⟨b, off, none⟩), .int _ j => match P.info? el with
    | some inf => some (some (.pointer (some ⟨b, off + j.toNat * inf.size, none⟩)), M, false, [0 ≤ j ∧ j < n])
    | none => none
  | _, _, _ => none
def hdiv (op : BinOp) (x y : Value) (M : AMem) : HOut :=
  match x, y with
  | .int k a, .int k' b => bif Nat.beq (ikn k) (ikn k') then (match op with
    | .quo => some (some (.int k (k.wrap (a.tdiv b))), M, false, [b ≠ 0])
    | .rem => some (some (.int k (a.tmod b)), M, false, [b ≠ 0])
    | _ => none) else none
  | _, _ => none
noncomputable def hequal (P : Program) (o : Oper) (T : Tr Value) (M : AMem) : HOut :=
  match o.op with
  | .binOp op t x y _ => match aenv T x, aenv T y with
    | .agg xs, .agg ys => bif noSel o.op && (pf (.agg xs) && pf (.agg ys)) && !(P.eqGuardType P.depth t) then (match op, eqF P 20 t (.agg xs) (.agg ys) with
      | .eql, some b => some (some (.bool b), M, false, [])
      | .neq, some b => some (some (.bool (!b)), M, false, [])
      | _, _ => none) else none
    | _, _ => none
  | _ => none
noncomputable def hcall (P : Program) (G : Globals) (e : Operand → Value) (o : Op) (h : Hn) (M : AMem) : HOut :=
  match acalled o with
  | some c => match acall P e c M with
    | some (.fn f args) => match h with
      | .cf v => bif args.toList.all (selfB 9) && selfB 9 v then some (some v, M, false, [FC P G f args.toList [] v]) else none
      | .cm v0 v ca km σ => some (some v, M, false, [FC P G f ca km v0, VRs σ.emb ca args.toList, MemAll σ M km, VR σ.emb v0 v])
      | .cn v0 v ca km σ b c sz => bif Nat.ble (Nat.succ (Nat.succ M.nxt)) bigger then some (some v, M.alloc (.row c sz), true, [FCN P G f ca km v0 b c sz, VRs σ.emb ca args.toList, MemAll σ M km, VR (Ren.emb ((b, M.nxt, 0) :: σ)) v0 v]) else none
      | _ => none
    | _ => none
  | none => none
noncomputable def hone (P : Program) (G : Globals) (o : Oper) (T : Tr Value) (M : AMem) (h : Hn) : HOut :=
  match h with
  | .ev => match ostep P (exec P 60) o T M with
    | some (r, M') => some (r, M', !quietOp o.op, [])
    | none => none
  | .ld v => bif okOper o && (romsOk M o && Nat.ble (Nat.succ M.nxt) bigger) then (match o.op with
    | .load t a => hload P t (aenv T a) v M
    | _ => none) else none
  | .ix => bif okOper o && (romsOk M o && Nat.ble (Nat.succ M.nxt) bigger) then (match o.op with
    | .indexAddr t x i => hindex P t (aenv T x) (aenv T i) M
    | _ => none) else none
  | .dv => bif okOper o && (romsOk M o && Nat.ble (Nat.succ M.nxt) bigger) then (match o.op with
    | .binOp op _ x y _ => hdiv op (aenv T x) (aenv T y) M
    | _ => none) else none
  | .lz _ => none
  | .lzs => none
  | .inl => none
  | .eq => bif okOper o && (romsOk M o && Nat.ble (Nat.succ M.nxt) bigger) then hequal P o T M else none
  | h => bif okOper o && (romsOk M o && Nat.ble (Nat.succ M.nxt) bigger) then hcall P G (aenv T) o.op h M else none
/-- A test's outcome is taken from the hint, and asked for. -/
def hres (b : Option Bool) (r : HOut) : HOut :=
  match b with
  | none => r
  | some b => match r with
    | some (some (.bool x), M, c, R) => some (some (.bool b), M, c, R ++ [x = b])
    | _ => none
noncomputable def ohint (P : Program) (G : Globals) (o : Oper) (T : Tr Value) (M : AMem) (h : Hint) : HOut := hres h.b (hone P G o T M h.h)

section
variable {P : Program} {N : Prot} {w0 : World} {ρ : Emb} {M : AMem} {w : World}
theorem ostep_of {o : Oper} {T : Tr Value} {r : Option Value} {M' : AMem} (h1 : (okOper o && (romsOk M o && Nat.ble (Nat.succ M.nxt) bigger)) = true) (hc : acalled o.op = none) (ha : aop P (aenv T) o M = some (r, M')) (hM : M'.nxt = M.nxt) :
    ostep P (exec P 60) o T M = some (r, M') := by
  simp only [Bool.and_eq_true] at h1
  unfold ostep
  rw [h1.1, h1.2.1]
  simp only [Bool.and_self, cond_true, hc, ha]
  unfold limited
  simp only [hM, h1.2.2, cond_true]
theorem add_off {b off m : Nat} : (⟨b, off, none⟩ : Addr).add m = ⟨b, off + m, none⟩ := by
  unfold Addr.add
  split
  · rename_i h; subst h; rfl
  · rfl
theorem hindex_run {t : TypeId} {x i : Value} {r : Option Value} {M' : AMem} {ch : Bool} {R : List Prop} (h : hindex P t x i M = some (r, M', ch, R)) (hR : All R) :
    M' = M ∧ ch = false ∧ vv (arun P (Instr.indexAt t x i) M) = some (r, M) := by
  unfold hindex at h
  split at h
  · rename_i el b off n cc k j ht
    split at h
    rotate_left
    · cases h
    rename_i inf hi
    cases h
    refine ⟨rfl, rfl, ?_⟩
    have hb := hR.1
    unfold Instr.indexAt
    simp only [asIntOf, Go.underlying, Go.sizeOf, Go.typeInfo, arun_bind, arun_pure', arun_program, Go.program, ht, hi, hb.1, hb.2, and_self, if_true, add_off, arun_pure]
    simp [vv]
  · rename_i n el b off k j ht
    split at h
    rotate_left
    · cases h
    rename_i inf hi
    cases h
    refine ⟨rfl, rfl, ?_⟩
    have hb := hR.1
    unfold Instr.indexAt
    simp only [asIntOf, Go.underlying, Go.sizeOf, Go.typeInfo, arun_bind, arun_pure', arun_program, Go.program, ht, hi, hb.1, hb.2, and_self, if_true, add_off, arun_pure, Instr.sureAddr]
    simp [vv]
  · cases h
theorem hequal_sound (hz : PF P) {o : Oper} {T : Tr Value} {r : Option Value} {M' : AMem} {ch : Bool} {R : List Prop} (hok : (okOper o && (romsOk M o && Nat.ble (Nat.succ M.nxt) bigger)) = true) (hh : hequal P o T M = some (r, M', ch, R)) :
    OpS P N w0 o T M r M' ∧ M' = M := by
  unfold hequal at hh
  split at hh
  rotate_left
  · cases hh
  rename_i op t x y yt hop
  split at hh
  rotate_left
  · cases hh
  rename_i xs ys hx hy
  obtain ⟨hc, hh⟩ := cond_some hh
  simp only [Bool.and_eq_true] at hc
  obtain ⟨⟨hns, hpx, hpy⟩, hg⟩ := hc
  have hg : P.eqGuardType P.depth t = false := by simpa using hg
  have key : ∀ b, (op = .eql ∨ op = .neq) → eqF P 20 t (.agg xs) (.agg ys) = some b → OpS P N w0 o T M (some (.bool (if op = .eql then b else !b))) M := by
    intro b hq he
    refine .of_step hz (ostep_of hok (by rw [hop]; rfl) ?_ rfl)
    have hex : execOp (aenv T) o = (do pure (.value (← (do eqGuard op t x y (aenv T x) (aenv T y); binOp op t (aenv T x) (aenv T y) : Sem Value)))) := by unfold execOp; rw [hop]
    have hops : o.op.operands.toList.all (fun x => pf (aenv T x)) = true := by rw [hop]; simp [Op.operands, hx, hy, hpx, hpy]
    have hpfo : pfo P (aenv T) o M = some (some (.bool (if op = .eql then b else !b)), M) := by
      unfold pfo
      rw [hops, hns]
      simp only [Bool.and_self, cond_true]
      rw [hex, hx, hy, frun_bind_eq, frun_eqOp (by decide) hq hg he]
      simp only [Option.bind_some, frun_pure]
      rfl
    unfold aop
    simp only [hop, hx, hy, hpx, hpy, Bool.and_self, cond_true]
    exact hpfo
  split at hh
  · rename_i he
    cases hh
    exact ⟨key _ (.inl rfl) (by assumption), rfl⟩
  · rename_i he
    cases hh
    exact ⟨key _ (.inr rfl) (by assumption), rfl⟩
  · cases hh
theorem hone_sound (hz : PF P) {G : Globals} (hf : Fine G N w0) {o : Oper} {T : Tr Value} {h : Hn} {r : Option Value} {M' : AMem} {ch : Bool} {R : List Prop} (hh : hone P G o T M h = some (r, M', ch, R)) (hR : All R) :
    OpS P N w0 o T M r M' ∧ (ch = false → quietOp o.op = true ∨ M' = M) := by
  unfold hone at hh
  split at hh
  · split at hh
    rotate_left
    · cases hh
    rename_i r1 M1 hs
    cases hh
    exact ⟨.of_step hz hs, fun h => .inl (by simpa using h)⟩
  · rename_i v
    obtain ⟨hok, hh⟩ := cond_some hh
    split at hh
    rotate_left
    · cases hh
    rename_i t a hop
    unfold hload at hh
    have key : ∀ b off c, aenv T a = .pointer (some ⟨b, off, none⟩) → ((∃ sz, M.get b = some (.row c sz)) ∨ (∃ g, M.get b = some (.rom c g))) → RowLd P t c off v → OpS P N w0 o T M (some v) M := by
      intro b off c ha hm hl
      refine .of_step hz (ostep_of hok (by rw [hop]; rfl) ?_ rfl)
      unfold aop
      simp only [hop, ha, hl M b hm, vv]
    split at hh
    · rename_i b off ha
      split at hh
      · rename_i c sz hg; cases hh; exact ⟨key b off c ha (.inl ⟨_, hg⟩) hR.1, fun _ => .inr rfl⟩
      · rename_i c g hg; cases hh; exact ⟨key b off c ha (.inr ⟨_, hg⟩) hR.1, fun _ => .inr rfl⟩
      · cases hh
    · cases hh
  · obtain ⟨hok, hh⟩ := cond_some hh
    split at hh
    rotate_left
    · cases hh
    rename_i t x i hop
    obtain ⟨rfl, rfl, he⟩ := hindex_run hh hR
    refine ⟨.of_step hz (ostep_of hok (by rw [hop]; rfl) ?_ rfl), fun _ => .inr rfl⟩
    unfold aop
    simp only [hop]
    exact he
  · obtain ⟨hok, hh⟩ := cond_some hh
    split at hh
    rotate_left
    · cases hh
    rename_i op t x y yt hop
    unfold hdiv at hh
    split at hh
    rotate_left
    · cases hh
    rename_i k a k' b hx hy
    obtain ⟨hk, hh2⟩ := cond_some hh
    clear hh
    have hk := ikn_inj (Nat.eq_of_beq_eq_true hk)
    subst hk
    have hnb : (Nat.beq (ikn k) (ikn k)) = true := Nat.beq_refl _
    have key : ∀ v, (op = .quo ∨ op = .rem) → b ≠ 0 → pf v = true → (Op.intDiv op k a b = (Pure.pure v : Sem Value)) → OpS P N w0 o T M (some v) M := by
      intro v hq hb hpv hdiv
      refine .of_step hz (ostep_of hok (by rw [hop]; rfl) ?_ rfl)
      have hex : execOp (aenv T) o = (do pure (.value (← (do eqGuard op t x y (aenv T x) (aenv T y); binOp op t (aenv T x) (aenv T y) : Sem Value)))) := by unfold execOp; rw [hop]
      have hops : o.op.operands.toList.all (fun x => pf (aenv T x)) = true := by rw [hop]; simp [Op.operands, hx, hy, pf, isFlat]
      have hns : noSel o.op = true := by rw [hop]; rfl
      have hpfo : pfo P (aenv T) o M = some (some v, M) := by
        unfold pfo
        rw [hops, hns]
        simp only [Bool.and_self, cond_true]
        have hin : (do eqGuard op t x y (.int k a) (.int k b); binOp op t (.int k a) (.int k b) : Sem Value) = Pure.pure v := by
          rcases hq with rfl | rfl <;> simp [eqGuard, binOp, hdiv]
        rw [hex, hx, hy, hin]
        show (match some (Next.value v) with | some (.value v) => bif pf v then some (some v, M) else none | some .skip => some (none, M) | _ => none) = _
        simp only [hpv, cond_true]
      unfold aop
      simp only [hop, hx, hy, hnb]
      rcases hq with rfl | rfl <;> simp only [fastInt] <;> exact hpfo
    split at hh2
    · cases hh2
      exact ⟨key _ (.inl rfl) hR.1 rfl (by unfold Op.intDiv; rw [if_neg hR.1]), fun _ => .inr rfl⟩
    · cases hh2
      exact ⟨key _ (.inr rfl) hR.1 rfl (by unfold Op.intDiv; rw [if_neg hR.1]), fun _ => .inr rfl⟩
    · cases hh2
  · cases hh
  · cases hh
  · cases hh
  · obtain ⟨hok, hh⟩ := cond_some hh
    have := hequal_sound (N := N) (w0 := w0) hz hok hh
    exact ⟨this.1, fun _ => .inr this.2⟩
  · obtain ⟨hok, hh⟩ := cond_some hh
    simp only [Bool.and_eq_true] at hok
    unfold hcall at hh
    split at hh
    rotate_left
    · cases hh
    rename_i c hc
    split at hh
    rotate_left
    · cases hh
    rename_i f args ha
    split at hh
    · rename_i v
      obtain ⟨hp, hh⟩ := cond_some hh
      simp only [Bool.and_eq_true] at hp
      cases hh
      refine ⟨OpS.of_call hok.1 hok.2.1 hc ha (FC.use hf hR.1 (σ := []) ?_ trivial (selfB_self 9 _ hp.2 _)), fun _ => .inr rfl⟩
      refine VRs.of_get _ _ rfl fun i v v' h1 h2 => ?_
      rw [h1] at h2
      cases h2
      exact selfB_self 9 v (List.all_eq_true.1 hp.1 v (List.mem_of_getElem? h1)) _
    · cases hh
      exact ⟨OpS.of_call hok.1 hok.2.1 hc ha (FC.use hf hR.1 hR.2.1 hR.2.2.1 hR.2.2.2.1), fun _ => .inr rfl⟩
    · obtain ⟨hl, hh⟩ := cond_some hh
      have hl : Nat.succ (Nat.succ M.nxt) ≤ bigger := by simpa using hl
      cases hh
      exact ⟨OpS.of_callN hok.1 hok.2.1 hc ha (FCN.use hf hR.1 hR.2.1 hR.2.2.1 hl hR.2.2.2.1), fun h => by cases h⟩
    · cases hh
theorem ohint_sound (hz : PF P) {G : Globals} (hf : Fine G N w0) {o : Oper} {T : Tr Value} {h : Hint} {r : Option Value} {M' : AMem} {ch : Bool} {R : List Prop} (hh : ohint P G o T M h = some (r, M', ch, R)) (hR : All R) :
    OpS P N w0 o T M r M' ∧ (ch = false → quietOp o.op = true ∨ M' = M) := by
  unfold ohint hres at hh
  split at hh
  · exact hone_sound hz hf hh hR
  · split at hh
    · rename_i x M1 c R1 h1
      cases hh
      rw [All.append] at hR
      have := hone_sound hz hf h1 hR.1
      rw [hR.2.1] at this
      exact this
    · cases hh
end
end Go.Sim
namespace Go.Sim
open Go.RowKit

/-! ### Calls that are run where they stand -/
structure HEx where
  code : Nat → Option Nat → Code → Tr Value → List Nat → AMem → List Hint → Option (AEx × Tr Value × List Nat × AMem × List Hint × List Prop)
  call : FuncId → Array Value → AMem → List Hint → Option (Value × AMem × List Hint × List Prop)
  round : Nat → Array Value → AMem → List Hint → Option (Value × AMem × List Hint × List Prop)
def HEx.none : HEx := ⟨fun _ _ _ _ _ _ _ => .none, fun _ _ _ _ => .none, fun _ _ _ _ => .none⟩
/-- What a walk of code comes to. -/
def PostJ (N : Prot) (w0 : World) (ρ : Emb) (n : Nat) (e : AEx) (T : Tr Value) (D : List Nat) (M : AMem) : Exit → Act → World → Prop := fun e' a' w' =>
  e' = toExit e ∧ ∃ ρ', ρ.le ρ' ∧ Rel N w0 ρ' M w' ∧ TJ ρ' n T a'.tmps ∧ DR ρ' D a'.defers
structure HSound (P : Program) (G : Globals) (E : HEx) : Prop where
  code : ∀ n ro c T D M hs e T' D' M' hs' R, E.code n ro c T D M hs = some (e, T', D', M', hs', R) → All R → ∀ (N : Prot) (w0 : World), Fine G N w0 → ∀ ρ w a ro' (k : Nat), Rel N w0 ρ M w → TJ ρ n T a.tmps → DR ρ D a.defers → RoR ρ ro ro' →
    c.wpIn (fen ro') k P (PostJ N w0 ρ n e T' D' M') a w
  loop : ∀ n ro c T D M hs e T' D' M' hs' R, E.code n ro (.loop c) T D M hs = some (e, T', D', M', hs', R) → All R → ∀ (N : Prot) (w0 : World), Fine G N w0 → ∀ ρ w a ro', Rel N w0 ρ M w → TJ ρ n T a.tmps → DR ρ D a.defers → RoR ρ ro ro' →
    ∀ (b : Frame) (q : List Item) (cs : List Frame), b.roundOf = ro' → ∃ e' a' w', PostJ N w0 ρ n e T' D' M' e' a' w' ∧ ArrivesIn (Machine.fenced P (fen ro')) P (lone (b.atR a (.code c :: .inLoop c :: q)) cs w) b q cs e' a' w'
  call : ∀ f args M hs v M' hs' R, E.call f args M hs = some (v, M', hs', R) → All R → ∀ (N : Prot) (w0 : World), Fine G N w0 → ∀ ρ w args' ro' (k : Nat), Rel N w0 ρ M w → VRs ρ args.toList args'.toList → CallsIn (fen ro') k P f args' w (PostF N w0 ρ v M')
  round : ∀ b args M hs v M' hs' R, E.round b args M hs = some (v, M', hs', R) → All R → ∀ (N : Prot) (w0 : World), Fine G N w0 → ∀ ρ w args' B ro' (k : Nat), Rel N w0 ρ M w → VRs ρ args.toList args'.toList → ρ b = some ⟨B, 0, 0, 0⟩ →
    ∃ f tmps assign body, (Instr.yield B args').run P w = .ok (.round B f tmps assign body) w ∧ RoundIn (fen ro') k P B f tmps assign body w (PostF N w0 ρ v M')
theorem HEx.none_sound {P : Program} {G : Globals} : HSound P G HEx.none :=
  ⟨fun _ _ _ _ _ _ _ _ _ _ _ _ _ h => (by cases h), fun _ _ _ _ _ _ _ _ _ _ _ _ _ h => (by cases h), fun _ _ _ _ _ _ _ _ h => (by cases h), fun _ _ _ _ _ _ _ _ h => (by cases h)⟩
noncomputable def hinl (P : Program) (E : HEx) (o : Oper) (T : Tr Value) (M : AMem) (hs : List Hint) : Option (Value × AMem × List Hint × List Prop) :=
  bif okOper o && romsOk M o then (match acalled o.op with
    | some c => match acall P (aenv T) c M with
      | some (.fn f args) => E.call f args M hs
      | some (.yl b args) => E.round b args M hs
      | none => none
    | none => none) else none
section
variable {P : Program} {N : Prot} {w0 : World} {ρ : Emb} {M : AMem} {w : World}
theorem hinl_sound {G : Globals} {E : HEx} (hE : HSound P G E) {o : Oper} {T : Tr Value} {hs : List Hint} {v : Value} {M' : AMem} {hs' : List Hint} {R : List Prop} (h : hinl P E o T M hs = some (v, M', hs', R)) (hR : All R) (hf : Fine G N w0) :
    OpS P N w0 o T M (some v) M' ∧ quietOp o.op = false := by
  unfold hinl at h
  obtain ⟨hok0, h⟩ := cond_some h
  rw [Bool.and_eq_true] at hok0
  split at h
  rotate_left
  · cases h
  rename_i c hc
  have hloud := acalled_loud hc
  refine ⟨⟨hok0.1, hok0.2, fun ρ w a ro' k next Q hr henv hn => ?_⟩, by cases hq : quietOp o.op with | false => rfl | true => exact absurd hq hloud⟩
  have hok' := hok0.1
  unfold okOper at hok'
  simp only [Bool.and_eq_true] at hok'
  have hnd : ∀ c, o.op ≠ .defer c := fun c e => by rw [e] at hok'; exact Bool.noConfusion (show false = true from hok'.1)
  have hsel : ∀ cs b, o.op ≠ .select cs b := fun cs b e => by rw [e] at hok'; exact Bool.noConfusion (show false = true from hok'.1)
  refine ⟨fun _ _ => trivial, ?_⟩
  rw [Oper.semAt_eq _ _ _ hnd, execOp_congr (ρ' := maskE o a.eval) o hsel (fun x hx => (maskE_in hx).symm)]
  have hE' := maskE_R henv
  have hcl := acalled_call hc
  have hcongr : acall P (aenv T) c M = acall P (maskE o (aenv T)) c M := acall_congr (fun x hx => (maskE_in (by rw [hcl]; exact hx)).symm) M
  rw [hcongr] at h
  have hex : execOp (maskE o a.eval) o = (do let d ← resolve (maskE o a.eval) c o.type; invoke d.target d.args) := by unfold execOp; rw [hcl]
  rw [hex]
  split at h
  · rename_i f args hac
    obtain ⟨as', h1, h2⟩ := acall_sound hr hE' hac o.type
    rw [h1]
    refine ⟨fun h => absurd h (by rw [fen_depth]; simp), ?_⟩
    refine (hE.call _ _ _ _ _ _ _ _ h hR N w0 hf ρ w as' ro' (k - 1) hr h2).mono ?_
    rintro e w' ⟨ρ', v', hle, rfl, hv, hrel⟩
    exact hn ρ' (some v') w' hle (.inr hv) hrel (fun h => absurd h hloud)
  · rename_i b args hac
    obtain ⟨B, as', hB, h1, h2⟩ := acall_yield hE' hac o.type w
    obtain ⟨f, tmps, assign, body, h3, h4⟩ := hE.round _ _ _ _ _ _ _ _ h hR N w0 hf ρ w as' B ro' (k - 1) hr h2 hB
    rw [h1, h3]
    refine ⟨fun h => absurd h (by rw [fen_depth]; simp), ?_⟩
    refine h4.mono ?_
    rintro e w' ⟨ρ', v', hle, rfl, hv, hrel⟩
    exact hn ρ' (some v') w' hle (.inr hv) hrel (fun h => absurd h hloud)
  · cases h
end
end Go.Sim
namespace Go.Sim
open Go.RowKit

/-! ### A region's run with hints -/
structure LRec where
  T : Tr Value
  M : AMem
  v : Value
  wanted : Bool
  ver : Nat
  h : Hint
noncomputable def knownAll (T : Tr Value) (l : List Tmp) : Bool := l.all fun t => !isJunk (slot T t)
abbrev ROut := Option (List LRec × Tr Value × AMem × Nat × List Hint × List Prop)
noncomputable def rcons (r : LRec) (R : List Prop) (x : ROut) : ROut :=
  match x with
  | some (rs, T, M, ver, hs, R2) => some (r :: rs, T, M, ver, hs, R ++ R2)
  | none => none
noncomputable def orun (P : Program) (G : Globals) (E : HEx) (n : Nat) (ops : List Oper) (l : List Oper) : List Hint → Tr Value → AMem → Nat → ROut :=
  List.rec (motive := fun _ => List Hint → Tr Value → AMem → Nat → ROut) (fun hs T M ver => some ([], T, M, ver, hs, []))
    (fun o _ ih hs T M ver => bif knownAll T (looksOf ops o) then match gd ops T o with
      | true => match hs with
        | h :: hs => match h.h with
          | .lz v => match aput n o.dst v T with
            | some T' => rcons ⟨T, M, v, true, ver, h⟩ [] (ih hs T' M ver)
            | none => none
          | .inl => match hinl P E o T M hs with
            | some (v, M', hs', R) => match aput n o.dst v T with
              | some T' => rcons ⟨T, M, v, true, ver, h⟩ R (ih hs' T' M' (Nat.succ ver))
              | none => none
            | none => none
          | _ => match ohint P G o T M h with
            | some (r, M', ch, R) => match aput n o.dst (r.getD undef) T with
              | some T' => rcons ⟨T, M, r.getD undef, true, ver, h⟩ R (ih hs T' (bif quietOp o.op then M else M') (bif ch then Nat.succ ver else ver))
              | none => none
            | none => none
        | [] => none
      | false => match aput n o.dst undef T with
        | some T' => rcons ⟨T, M, undef, false, ver, ⟨.ix, none⟩⟩ [] (ih hs T' M ver)
        | none => none
    else none) l
section
variable {P : Program} {N : Prot} {w0 : World} {ρ : Emb} {M : AMem} {w : World}
theorem orun_nil {G : Globals} {E : HEx} {n : Nat} {ops : List Oper} {hs : List Hint} {T : Tr Value} {ver : Nat} : orun P G E n ops [] hs T M ver = some ([], T, M, ver, hs, []) := rfl
theorem orun_cons {G : Globals} {E : HEx} {n : Nat} {ops : List Oper} {o : Oper} {l : List Oper} {hs : List Hint} {T : Tr Value} {ver : Nat} : orun P G E n ops (o :: l) hs T M ver = bif knownAll T (looksOf ops o) then match gd ops T o with
      | true => match hs with
        | h :: hs => match h.h with
          | .lz v => match aput n o.dst v T with
            | some T' => rcons ⟨T, M, v, true, ver, h⟩ [] (orun P G E n ops l hs T' M ver)
            | none => none
          | .inl => match hinl P E o T M hs with
            | some (v, M', hs', R) => match aput n o.dst v T with
              | some T' => rcons ⟨T, M, v, true, ver, h⟩ R (orun P G E n ops l hs' T' M' (Nat.succ ver))
              | none => none
            | none => none
          | _ => match ohint P G o T M h with
            | some (r, M', ch, R) => match aput n o.dst (r.getD undef) T with
              | some T' => rcons ⟨T, M, r.getD undef, true, ver, h⟩ R (orun P G E n ops l hs T' (bif quietOp o.op then M else M') (bif ch then Nat.succ ver else ver))
              | none => none
            | none => none
        | [] => none
      | false => match aput n o.dst undef T with
        | some T' => rcons ⟨T, M, undef, false, ver, ⟨.ix, none⟩⟩ [] (orun P G E n ops l hs T' M ver)
        | none => none
    else none := rfl
theorem rcons_some {r : LRec} {R : List Prop} {x : ROut} {rs : List LRec} {T : Tr Value} {M : AMem} {ver : Nat} {hs : List Hint} {R' : List Prop} (h : rcons r R x = some (rs, T, M, ver, hs, R')) :
    ∃ rs2 R2, x = some (rs2, T, M, ver, hs, R2) ∧ rs = r :: rs2 ∧ R' = R ++ R2 := by
  unfold rcons at h
  split at h
  · cases h; exact ⟨_, _, rfl, rfl, rfl⟩
  · cases h
/-- What one operation of a region has come to. -/
structure LStep (P : Program) (G : Globals) (n : Nat) (ops : List Oper) (o : Oper) (T T' : Tr Value) (M M' : AMem) (v : Value) (b : Bool) (ver ver' : Nat) (x : Bool) : Prop where
  wd : gd ops T o = b
  known : ∀ t ∈ looksOf ops o, isJunk (slot T t) = false
  put : aput n o.dst v T = some T'
  off : b = false → v = undef ∧ M' = M
  on : b = true → x = false → ∃ r M1, (∀ (N : Prot) (w0 : World), Fine G N w0 → OpS P N w0 o T M r M1) ∧ v = r.getD undef ∧ M' = bif quietOp o.op then M else M1
  ver : (ver' = ver ∧ M' = M) ∨ ver' = ver + 1
  ex : x = true → b = true ∧ M' = M
  al : ∀ t, o.op = .alloc t → b = true → x = false → ∃ v0, zeroOf P t = some v0 ∧ v = .pointer (some ⟨M.nxt, 0, none⟩) ∧ M' = M.alloc (.row v0.cells.toList 0) ∧ Nat.succ M.nxt < bigger
def isLz : Hn → Bool
  | .lz _ => true
  | _ => false
theorem knownAll_at {T : Tr Value} {l : List Tmp} (h : knownAll T l = true) : ∀ t ∈ l, isJunk (slot T t) = false := fun t ht => by
  have := List.all_eq_true.1 h t ht
  simpa using this
theorem hinl_alloc {E : HEx} {o : Oper} {t : TypeId} {T : Tr Value} {M : AMem} {hs : List Hint} {r : Value × AMem × List Hint × List Prop} (ho : o.op = .alloc t) : hinl P E o T M hs ≠ some r := by
  intro h
  unfold hinl at h
  obtain ⟨_, h⟩ := cond_some h
  rw [ho] at h
  cases h
theorem arun_allocI {t : TypeId} {M M' : AMem} {v : Value} (h : arun P (Instr.alloc t true (.tuple #[])) M = some (v, M')) : ∃ v0, zeroOf P t = some v0 ∧ v = .pointer (some ⟨M.nxt, 0, none⟩) ∧ M' = M.alloc (.row v0.cells.toList 0) := by
  unfold Instr.alloc Go.zeroValue Go.typeInfo at h
  simp only [arun_bind, show arun P Go.program M = some (P, M) from rfl] at h
  unfold zeroOf
  cases hi : P.info? t with
  | none => rw [hi] at h; cases h
  | some i =>
    rw [hi] at h
    simp only [arun_pure'] at h
    cases hz : i.zero with
    | none => simp only [hz] at h; cases h
    | some z =>
      simp only [hz, arun_pure'] at h
      refine ⟨z, hz, ?_⟩
      have e : arun P (Go.newVar t z) M = some (⟨M.nxt, 0, none⟩, M.alloc (.row z.cells.toList 0)) := rfl
      rw [e] at h
      cases h
      exact ⟨rfl, rfl⟩
theorem ohint_alloc {G : Globals} {o : Oper} {t : TypeId} {T : Tr Value} {M M' : AMem} {hh : Hint} {r : Option Value} {ch : Bool} {R : List Prop} (ho : o.op = .alloc t) (h : ohint P G o T M hh = some (r, M', ch, R)) :
    ∃ v0, zeroOf P t = some v0 ∧ r = some (.pointer (some ⟨M.nxt, 0, none⟩)) ∧ M' = M.alloc (.row v0.cells.toList 0) ∧ Nat.succ M.nxt < bigger := by
  have key : ∀ {r : Option Value} {M' : AMem} {ch : Bool} {R : List Prop}, hone P G o T M hh.h = some (r, M', ch, R) → ∃ v0, zeroOf P t = some v0 ∧ r = some (.pointer (some ⟨M.nxt, 0, none⟩)) ∧ M' = M.alloc (.row v0.cells.toList 0) ∧ Nat.succ M.nxt < bigger := by
    intro r M' ch R h
    unfold hone at h
    split at h
    · split at h
      rotate_left
      · cases h
      rename_i r1 M1 hs
      cases h
      unfold ostep limited at hs
      split at hs
      rotate_left
      · cases hs
      rename_i v2 M2 h2
      obtain ⟨hl, hs⟩ := cond_some hs
      cases hs
      obtain ⟨_, h2⟩ := cond_some h2
      rw [ho] at h2
      have h3 : aop P (aenv T) o M = some (r, M') := h2
      unfold aop at h3
      rw [ho] at h3
      have h4 : vv (arun P (Instr.alloc t true (.tuple #[])) M) = some (r, M') := h3
      unfold vv at h4
      split at h4
      rotate_left
      · cases h4
      rename_i v5 M5 h5
      cases h4
      obtain ⟨v0, k1, k2, k3⟩ := arun_allocI h5
      refine ⟨v0, k1, by rw [k2], k3, ?_⟩
      have hl : Nat.succ M'.nxt ≤ bigger := by simpa using hl
      rw [k3] at hl
      exact hl
    · obtain ⟨_, h⟩ := cond_some h; rw [ho] at h; cases h
    · obtain ⟨_, h⟩ := cond_some h; rw [ho] at h; cases h
    · obtain ⟨_, h⟩ := cond_some h; rw [ho] at h; cases h
    · cases h
    · cases h
    · cases h
    · obtain ⟨_, h⟩ := cond_some h; unfold hequal at h; rw [ho] at h; cases h
    · obtain ⟨_, h⟩ := cond_some h; unfold hcall at h; rw [ho] at h; cases h
  unfold ohint hres at h
  split at h
  · exact key h
  · split at h
    rotate_left
    · cases h
    rename_i hh2
    obtain ⟨_, _, k2, _⟩ := key hh2
    cases k2
theorem orun_step {G : Globals} (hz : PF P) {E : HEx} (hE : HSound P G E) (hf : Fine G N w0) {n : Nat} {ops : List Oper} {o : Oper} {l : List Oper} {hs : List Hint} {T : Tr Value} {ver : Nat} {rs : List LRec} {T2 : Tr Value} {M2 : AMem} {ver2 : Nat} {hs2 : List Hint} {R2 : List Prop}
    (h : orun P G E n ops (o :: l) hs T M ver = some (rs, T2, M2, ver2, hs2, R2)) (hR : All R2) :
    ∃ hs1 T1 M1 v b ver1 rs1 R1 h1, LStep P G n ops o T T1 M M1 v b ver ver1 (isLz h1.h) ∧ rs = ⟨T, M, v, b, ver, h1⟩ :: rs1 ∧ orun P G E n ops l hs1 T1 M1 ver1 = some (rs1, T2, M2, ver2, hs2, R1) ∧ All R1 := by
  rw [orun_cons] at h
  obtain ⟨hk, g⟩ := cond_some h
  clear h
  have hk := knownAll_at hk
  cases hg : gd ops T o with
  | true =>
    rw [hg] at g
    simp only at g
    split at g
    rotate_left
    · cases g
    rename_i h1 hs1
    split at g
    · rename_i v hl
      split at g
      rotate_left
      · cases g
      rename_i T1 hp
      obtain ⟨rs1, R1, he, rfl, hRR⟩ := rcons_some g
      rw [List.nil_append] at hRR
      exact ⟨_, T1, _, _, true, _, rs1, R1, h1, ⟨hg, hk, hp, fun h => by (cases h), fun _ h => by (rw [hl] at h; cases h), .inl ⟨rfl, rfl⟩, fun _ => ⟨rfl, rfl⟩, fun _ _ _ h => by (rw [hl] at h; cases h)⟩, rfl, he, hRR ▸ hR⟩
    · rename_i hl
      split at g
      rotate_left
      · cases g
      rename_i v M1 hs2 R hh
      split at g
      rotate_left
      · cases g
      rename_i T1 hp
      obtain ⟨rs1, R1, he, rfl, rfl⟩ := rcons_some g
      rw [All.append] at hR
      have hq := (hinl_sound hE hh hR.1 hf).2
      exact ⟨_, T1, _, _, true, _, rs1, R1, h1, ⟨hg, hk, hp, fun h => by (cases h), fun _ _ => ⟨some v, M1, fun N w0 hf => (hinl_sound hE hh hR.1 hf).1, rfl, by rw [hq]; rfl⟩, .inr rfl, fun h => by (rw [hl] at h; cases h), fun t ho => absurd hh (hinl_alloc ho)⟩, rfl, he, hR.2⟩
    rename_i hnl _
    split at g
    rotate_left
    · cases g
    rename_i r M1 ch R hh
    split at g
    rotate_left
    · cases g
    rename_i T1 hp
    obtain ⟨rs1, R1, he, rfl, rfl⟩ := rcons_some g
    rw [All.append] at hR
    have hch := (ohint_sound hz hf hh hR.1).2
    have hop : ∀ (N : Prot) (w0 : World), Fine G N w0 → OpS P N w0 o T M r M1 := fun N w0 hf => (ohint_sound hz hf hh hR.1).1
    have hlz : isLz h1.h = false := by
      cases hh1 : h1.h with
      | lz v => exact absurd hh1 (hnl v)
      | _ => rfl
    refine ⟨_, T1, _, _, true, _, rs1, R1, h1, ⟨hg, hk, hp, fun h => by (cases h), fun _ _ => ⟨r, M1, hop, rfl, rfl⟩, ?_, fun h => by (rw [hlz] at h; cases h), fun t ho _ _ => ?_⟩, rfl, he, hR.2⟩
    rotate_left
    · obtain ⟨v0, k1, k2, k3⟩ := ohint_alloc ho hh
      exact ⟨v0, k1, by rw [k2]; rfl, by rw [show quietOp o.op = false by rw [ho]; rfl]; exact k3.1, k3.2⟩
    cases ch with
    | true => exact .inr rfl
    | false =>
      refine .inl ⟨rfl, ?_⟩
      rcases hch rfl with hq | hM
      · rw [hq]; rfl
      · cases hq : quietOp o.op with
        | true => rfl
        | false => exact hM
  | false =>
    rw [hg] at g
    simp only at g
    split at g
    rotate_left
    · cases g
    rename_i T1 hp
    obtain ⟨rs1, R1, he, rfl, rfl⟩ := rcons_some g
    exact ⟨hs, T1, M, undef, false, ver, rs1, _, _, ⟨hg, hk, hp, fun _ => ⟨rfl, rfl⟩, fun h => by (cases h), .inl ⟨rfl, rfl⟩, fun h => by (cases h), fun _ _ h => by (cases h)⟩, rfl, he, hR⟩
theorem TJ.put {n : Nat} {T T' : Tr Value} {a : Act} {dst : Option Tmp} {v u : Value} (h : TJ ρ n T a.tmps) (hv : SVR ρ v u) (hp : aput n dst v T = some T') : TJ ρ n T' (a.put dst u).tmps := by
  unfold aput at hp
  cases dst with
  | none => cases hp; exact h
  | some d =>
    obtain ⟨hd, hb⟩ := cond_some hp
    cases hb
    have hd : Nat.succ d ≤ n := by simpa using hd
    obtain ⟨h1, h2, h3⟩ := h
    refine ⟨by simp [Act.put, h1], h2, fun t => ?_⟩
    rw [slot_set (by omega)]
    show SVR ρ _ ((a.tmps.setIfInBounds d u).getD t undef)
    rw [getD_set]
    by_cases e : t = d
    · rw [if_pos e, if_pos ⟨e, by omega⟩]; exact hv
    · rw [if_neg e, if_neg (fun h => e h.1)]; exact h3 t
theorem orun_sound {G : Globals} (hz : PF P) {E : HEx} (hE : HSound P G E) (hf : Fine G N w0) {n : Nat} {ops : List Oper} {ro' : Option Nat} {k : Nat} {Q : Exit → Act → World → Prop} {T' : Tr Value} {M' : AMem} {ver' : Nat} {hs' : List Hint} :
    ∀ (l : List Oper) (i : Nat) (hs : List Hint) (T : Tr Value) (M : AMem) (ver : Nat) (rs : List LRec) (R : List Prop) (ρ : Emb) (a : Act) (w : World), (∀ j, l[j]? = ops[i + j]?) → orun P G E n ops l hs T M ver = some (rs, T', M', ver', hs', R) → All R → (rs.all fun r => !isLz r.h.h) = true →
      Rel N w0 ρ M w → TJ ρ n T a.tmps →
      (∀ ρ' a' w', ρ.le ρ' → Rel N w0 ρ' M' w' → TJ ρ' n T' a'.tmps → a'.defers = a.defers → Q .normal a' w') → wpOpsIn (fen ro') k P ops.toArray Q ((List.range l.length).map (i + ·)) a w := by
  intro l
  induction l with
  | nil =>
    intro i hs T M ver rs R ρ a w _ h hR _ hr ht hQ
    rw [orun_nil] at h
    cases h
    exact hQ ρ a w (Emb.le.refl _) hr ht rfl
  | cons o l ih =>
    intro i hs T M ver rs R ρ a w hl h hR hnz hr ht hQ
    have hi : ops[i]? = some o := by have := hl 0; simpa using this.symm
    have hl' : ∀ j, l[j]? = ops[i + 1 + j]? := fun j => by have := hl (j + 1); simp at this; rw [this]; congr 1; omega
    have hlist : ((List.range (o :: l).length).map (i + ·)) = i :: ((List.range l.length).map (i + 1 + ·)) := by
      simp only [List.length_cons, List.range_succ_eq_map, List.map_cons, List.map_map, Nat.add_zero]
      congr 1
      apply List.map_congr_left
      intro x _
      simp only [Function.comp_apply]
      omega
    rw [hlist]
    unfold wpOpsIn
    simp only [List.getElem?_toArray, hi]
    obtain ⟨hs1, T1, M1, v, b, ver1, rs1, R1, h1, hst, rfl, hrun, hR1⟩ := orun_step hz hE hf h hR
    rw [List.all_cons, Bool.and_eq_true, Bool.not_eq_true'] at hnz
    have hA : ∀ t ∈ looksOf ops o, VR ρ (slot T t) (a.tmps.getD t undef) := fun t ht' => (ht.2.2 t).known (hst.known t ht')
    rw [gd_eq' ops o hA, hst.wd]
    cases b with
    | true =>
      rw [if_pos rfl]
      obtain ⟨r, M2, hop, hv, hM⟩ := hst.on rfl hnz.1
      have hop := hop N w0 hf
      refine hop.run ρ w a ro' k _ _ hr (aenv_R' hA hr hop.ok hop.roms) ?_
      intro ρ1 r' w1 hle hv' hrel hq
      refine ih (i + 1) hs1 T1 M1 ver1 rs1 R1 ρ1 _ w1 hl' hrun hR1 hnz.2 ?_ ((ht.mono hle).put (by rw [hv]; exact hv') hst.put) ?_
      · cases hqo : quietOp o.op with
        | true => rw [hqo] at hM; rw [hM]; obtain ⟨e1, _, _⟩ := hq hqo; rw [← e1]; exact hrel
        | false => rw [hqo] at hM; rw [hM]; exact hrel
      · intro ρ2 a2 w2 hle2 hrel2 ht2 hd
        exact hQ ρ2 a2 w2 (hle.trans hle2) hrel2 ht2 (by rw [hd, put_defers])
    | false =>
      rw [if_neg (by simp)]
      refine ⟨fun _ _ => trivial, ?_⟩
      obtain ⟨hv, hM⟩ := hst.off rfl
      refine ih (i + 1) hs1 T1 M1 ver1 rs1 R1 ρ _ w hl' hrun hR1 hnz.2 (by rw [hM]; exact hr) (ht.put (.inr undefR) (hv ▸ hst.put)) ?_
      intro ρ2 a2 w2 hle2 hrel2 ht2 hd
      exact hQ ρ2 a2 w2 hle2 hrel2 ht2 (by rw [hd, put_defers])

/-! ### Regions that draw their order -/
theorem orun_spec {G : Globals} (hz : PF P) {E : HEx} (hE : HSound P G E) (hf : Fine G N w0) {n : Nat} {ops : List Oper} {T' : Tr Value} {M' : AMem} {ver' : Nat} {hs' : List Hint} : ∀ (l : List Oper) (hs : List Hint) (T : Tr Value) (M : AMem) (ver : Nat) (rs : List LRec) (R : List Prop),
    orun P G E n ops l hs T M ver = some (rs, T', M', ver', hs', R) → All R →
    ∃ (Tf : Nat → Tr Value) (Mf : Nat → AMem) (vf : Nat → Value) (wf : Nat → Bool) (ef : Nat → Nat) (gf : Nat → Hint), Tf 0 = T ∧ Mf 0 = M ∧ Tf l.length = T' ∧ Mf l.length = M' ∧ ef l.length = ver' ∧ rs.length = l.length ∧
      ∀ i o, l[i]? = some o → rs[i]? = some ⟨Tf i, Mf i, vf i, wf i, ef i, gf i⟩ ∧ LStep P G n ops o (Tf i) (Tf (i + 1)) (Mf i) (Mf (i + 1)) (vf i) (wf i) (ef i) (ef (i + 1)) (isLz (gf i).h) := by
  intro l
  induction l with
  | nil =>
    intro hs T M ver rs R h _
    rw [orun_nil] at h
    cases h
    exact ⟨fun _ => T', fun _ => M', fun _ => undef, fun _ => false, fun _ => ver', fun _ => ⟨.ix, none⟩, rfl, rfl, rfl, rfl, rfl, rfl, fun i o h => by simp at h⟩
  | cons o l ih =>
    intro hs T M ver rs R h hR
    obtain ⟨hs1, T1, M1, v, b, ver1, rs1, R1, hh1, hst, hrs, hrun, hR1⟩ := orun_step hz hE hf h hR
    obtain ⟨Tf, Mf, vf, wf, ef, gf, h1, h2, h3, h4, h5, h6, h7⟩ := ih hs1 T1 M1 ver1 rs1 R1 hrun hR1
    have e0 : ef 0 = ver1 ∨ l = [] := by
      cases l with
      | nil => exact .inr rfl
      | cons o2 l2 =>
        left
        obtain ⟨hs3, T3, M3, v3, b3, ver3, rs3, R3, _, _, hrs3, _, _⟩ := orun_step hz hE hf hrun hR1
        have := (h7 0 o2 rfl).1
        rw [hrs3] at this
        simp at this
        exact this.2.2.2.2.1.symm
    have e0' : ef 0 = ver1 := by
      rcases e0 with h | rfl
      · exact h
      · rw [orun_nil] at hrun
        cases hrun
        exact h5
    refine ⟨fun | 0 => T | i + 1 => Tf i, fun | 0 => M | i + 1 => Mf i, fun | 0 => v | i + 1 => vf i, fun | 0 => b | i + 1 => wf i, fun | 0 => ver | i + 1 => ef i, fun | 0 => hh1 | i + 1 => gf i, rfl, rfl, h3, h4, h5, by rw [hrs]; simp [h6], ?_⟩
    intro i o' ho
    cases i with
    | zero =>
      simp at ho
      subst ho
      refine ⟨by rw [hrs]; rfl, ?_⟩
      simp only [h1, h2, e0']
      exact hst
    | succ i =>
      obtain ⟨h8, h9⟩ := h7 i o' (by simpa using ho)
      exact ⟨by rw [hrs]; simpa using h8, h9⟩
/-- Operations that could run at other places come to the same there. -/
noncomputable def dreq1 (P : Program) (G : Globals) (mems : List AMem) (vers : List Nat) (o : Oper) (r : LRec) (qs : List Nat) : Option (List Prop) :=
  List.rec (motive := fun _ => Option (List Prop)) (some []) (fun q _ ih => match nth vers q, ih with
    | some e, some R => bif Nat.beq e r.ver then some R else match nth mems q with
      | some Mq => match ohint P G o r.T Mq r.h with
        | some (u, _, c, R1) => bif c && !quietOp o.op then none else some (R1 ++ (u.getD undef = r.v) :: R)
        | none => none
      | none => none
    | _, _ => none) qs
noncomputable def dreq (P : Program) (G : Globals) (mems : List AMem) (vers : List Nat) : List (List Nat) → List Oper → List LRec → Option (List Prop)
  | [], _, _ => some []
  | qs :: pl, o :: ops, r :: recs => match (bif r.wanted then dreq1 P G mems vers o r qs else some []), dreq P G mems vers pl ops recs with
    | some R, some R2 => some (R ++ R2)
    | _, _ => none
  | _, _, _ => none
structure LInv (N : Prot) (w0 : World) (n : Nat) (ops : List Oper) (xf : Nat → Bool) (L : List Info) (u0 : Nat → Value) (Mf : Nat → AMem) (vf : Nat → Value) (ρ0 : Emb) (d0 : List Deferred) (ρ : Emb) (listed : Array Bool) (a : Act) (w : World) : Prop where
  size : listed.size = ops.length
  closed : Closed ops (LD listed)
  mem : ∃ p, p ≤ ops.length ∧ (p = 0 ∨ ∃ y ∈ L, y.loud = true ∧ p = y.idx + 1) ∧ (∀ y ∈ L, y.loud = true → (LD listed y.idx ↔ y.idx < p)) ∧ Rel N w0 ρ (Mf p) w
  tmps : a.tmps.size = n ∧ ∀ t, ∃ v, Val (fun j => LD listed j ∧ dstOf ops j = some t) (u0 t) vf v ∧ SVR ρ v (a.tmps.getD t undef)
  defers : a.defers = d0
  le : ρ0.le ρ
  exl : ∀ i, xf i = true → LD listed i
/-- What leaves memory as it was need not be ordered. -/
def softL : List Info → List Bool → List Info
  | x :: l, b :: bs => { x with loud := x.loud && b } :: softL l bs
  | _, _ => []
def infosS (fl : List Bool) (ops : List Oper) : List Info := softL (infos ops ops 0 []) fl
theorem softL_at : ∀ (l : List Info) (fl : List Bool), fl.length = l.length → ∀ (i : Nat) (x : Info), l[i]? = some x → ∃ b, fl[i]? = some b ∧ (softL l fl)[i]? = some { x with loud := x.loud && b } := by
  intro l
  induction l with
  | nil => intro fl _ i x h; simp at h
  | cons y l ih =>
    intro fl hl i x h
    cases fl with
    | nil => simp at hl
    | cons b fl =>
      cases i with
      | zero => simp at h; subst h; exact ⟨b, rfl, rfl⟩
      | succ i => obtain ⟨c, h1, h2⟩ := ih fl (by simpa using hl) i x (by simpa using h); exact ⟨c, by simpa using h1, by simpa [softL] using h2⟩
theorem softL_length : ∀ (l : List Info) (fl : List Bool), fl.length = l.length → (softL l fl).length = l.length := by
  intro l
  induction l with
  | nil => intro fl _; cases fl <;> rfl
  | cons y l ih =>
    intro fl hl
    cases fl with
    | nil => simp at hl
    | cons b fl => simp [softL, ih fl (by simpa using hl)]
theorem infosS_length {fl : List Bool} {ops : List Oper} (hf : fl.length = ops.length) : (infosS fl ops).length = ops.length := by
  unfold infosS
  rw [softL_length _ _ (by rw [infos_length, hf]), infos_length]
theorem at_LS {fl : List Bool} {ops : List Oper} (hf : fl.length = ops.length) {i : Nat} {o : Oper} (ho : ops[i]? = some o) : ∃ x, (infosS fl ops)[i]? = some x ∧ x.idx = i ∧ x.dst = o.dst ∧ x.looks = looksOf ops o ∧ (x.loud = true ↔ quietOp o.op ≠ true ∧ fl[i]? = some true) := by
  obtain ⟨x, h1, h2, h3, h4, h5⟩ := at_L ho
  obtain ⟨b, h6, h7⟩ := softL_at _ fl (by rw [infos_length, hf]) i x h1
  refine ⟨_, h7, h2, h3, h4, ?_⟩
  rw [h6]
  simp only [h5]
  cases quietOp o.op <;> cases b <;> simp
theorem L_atS {fl : List Bool} {ops : List Oper} (hf : fl.length = ops.length) {y : Info} (hy : y ∈ infosS fl ops) : ∃ o, ops[y.idx]? = some o ∧ (infosS fl ops)[y.idx]? = some y := by
  obtain ⟨j, hj⟩ := List.getElem?_of_mem hy
  have hlt : j < ops.length := by have := (List.getElem?_eq_some_iff.1 hj).1; rw [infosS_length hf] at this; exact this
  have ho : ops[j]? = some ops[j] := List.getElem?_eq_getElem hlt
  obtain ⟨x, h1, h2, _, _, _⟩ := at_LS hf ho
  rw [hj] at h1
  cases h1
  exact ⟨ops[j], by rw [h2]; exact ho, by rw [h2]; exact hj⟩
theorem mask_closedS {fl : List Bool} {ops : List Oper} {D : Nat → Prop} (hf : fl.length = ops.length) (hD : Closed ops D) (he : edgesOk ops 0 = true) (i : Nat) (o : Oper) (x : Info) (ho : ops[i]? = some o) (hx : (infosS fl ops)[i]? = some x)
    (hall : ∀ e ∈ o.after, Region.binds .any e = true → D e.on) : ∀ j, x.mask.testBit j = true → D j := by
  have hlt : i < (infos ops ops 0 []).length := by rw [infos_length]; exact (List.getElem?_eq_some_iff.1 ho).1
  have h0 : (infos ops ops 0 [])[i]? = some (infos ops ops 0 [])[i] := List.getElem?_eq_getElem hlt
  obtain ⟨b, _, h7⟩ := softL_at _ fl (by rw [infos_length, hf]) i _ h0
  have hx' : (softL (infos ops ops 0 []) fl)[i]? = some x := hx
  rw [h7] at hx'
  cases hx'
  exact fun j hj => mask_closed hD he i o _ ho h0 hall j hj
/-- What the check has found. -/
structure LOk (P : Program) (G : Globals) (n : Nat) (ops : List Oper) (xf : Nat → Bool) (Tf : Nat → Tr Value) (Mf : Nat → AMem) (vf : Nat → Value) (wf : Nat → Bool) (ef : Nat → Nat) (fl : List Bool) : Prop where
  len : fl.length = ops.length
  soft : ∀ i, i < ops.length → fl[i]? ≠ some true → Mf (i + 1) = Mf i
  hard : ∀ i (h : i < ops.length), fl[i]? = some true → quietOp ops[i].op ≠ true
  pairs : pairsOk (infosS fl ops) = true
  edges : edgesOk ops 0 = true
  loud : ∀ x ∈ infosS fl ops, tight (infosS fl ops) x = true ∨ x.loud = false
  st : ∀ i o, ops[i]? = some o → LStep P G n ops o (Tf i) (Tf (i + 1)) (Mf i) (Mf (i + 1)) (vf i) (wf i) (ef i) (ef (i + 1)) (xf i)
  again : ∀ i o x, xf i = false → ops[i]? = some o → (infosS fl ops)[i]? = some x → wf i = true → tight (infosS fl ops) x = false → ∀ q, q ≤ ops.length → feasible (infosS fl ops) x q = true →
    ∃ r M1, (∀ (N : Prot) (w0 : World), Fine G N w0 → OpS P N w0 o (Tf i) (Mf q) r M1) ∧ r.getD undef = vf i ∧ (quietOp o.op = true ∨ M1 = Mf q)
theorem traceL {n : Nat} {ops : List Oper} (hn : n < bigger) {Tf : Nat → Tr Value} {Mf : Nat → AMem} {vf : Nat → Value} {wf : Nat → Bool} {ef : Nat → Nat}
    {G : Globals} {xf : Nat → Bool} (hst : ∀ i o, ops[i]? = some o → LStep P G n ops o (Tf i) (Tf (i + 1)) (Mf i) (Mf (i + 1)) (vf i) (wf i) (ef i) (ef (i + 1)) (xf i)) (t : Nat) :
    ∀ i, i ≤ ops.length → Val (fun j => j < i ∧ dstOf ops j = some t) (slot (Tf 0) t) vf (slot (Tf i) t) := by
  intro i
  induction i with
  | zero => intro _; exact .inl ⟨fun j h => by omega, rfl⟩
  | succ i ih =>
    intro hi
    have ih := ih (by omega)
    have ho : ops[i]? = some ops[i] := List.getElem?_eq_getElem (by omega)
    have hs := hst i _ ho
    have hp := hs.put
    unfold aput at hp
    have hdst : dstOf ops i = ops[i].dst := by unfold dstOf; rw [ho]; rfl
    split at hp
    · rename_i hd
      rw [← Option.some.inj hp]
      refine ih.congr fun j => ?_
      constructor
      · rintro ⟨h1, h2⟩; exact ⟨by omega, h2⟩
      · rintro ⟨h1, h2⟩
        refine ⟨?_, h2⟩
        rcases Nat.lt_or_ge j i with h | h
        · exact h
        · have : j = i := by omega
          subst this
          rw [hdst, hd] at h2
          cases h2
    · rename_i d hd
      obtain ⟨hle, hb⟩ := cond_some hp
      have hle : Nat.succ d ≤ n := by simpa using hle
      rw [← Option.some.inj hb]
      rw [slot_set (by omega)]
      by_cases e : t = d
      · subst e
        rw [if_pos rfl]
        exact .inr ⟨i, ⟨by omega, by rw [hdst, hd]⟩, fun j hj => by omega, rfl⟩
      · rw [if_neg e]
        refine ih.congr fun j => ?_
        constructor
        · rintro ⟨h1, h2⟩; exact ⟨by omega, h2⟩
        · rintro ⟨h1, h2⟩
          refine ⟨?_, h2⟩
          rcases Nat.lt_or_ge j i with h | h
          · exact h
          · have : j = i := by omega
            subst this
            rw [hdst, hd] at h2
            cases h2
            exact absurd rfl e
theorem stretchL {m : Nat} {Mf : Nat → AMem} {fl : List Bool} (hsoft : ∀ i, i < m → fl[i]? ≠ some true → Mf (i + 1) = Mf i) :
    ∀ a b, a ≤ b → b ≤ m → (∀ j, a ≤ j → j < b → fl[j]? ≠ some true) → Mf b = Mf a := by
  intro a b
  induction b with
  | zero => intro h _ _; rw [show a = 0 by omega]
  | succ b ih =>
    intro h hb hq
    rcases Nat.lt_or_ge b a with h1 | h1
    · rw [show a = b + 1 by omega]
    · rw [← ih h1 (by omega) fun j h2 h3 => hq j h2 (by omega)]
      exact hsoft b (by omega) (hq b h1 (by omega))
theorem stretchL' {m : Nat} {Mf : Nat → AMem} {fl : List Bool} (hsoft : ∀ i, i < m → fl[i]? ≠ some true → Mf (i + 1) = Mf i) {a b : Nat} (ha : a ≤ m) (hb : b ≤ m)
    (h : ∀ j, j < m → fl[j]? = some true → (j < a ↔ j < b)) : Mf a = Mf b := by
  rcases Nat.le_total a b with hab | hab
  · refine (stretchL hsoft a b hab hb fun j h1 h2 hf => ?_).symm
    have := (h j (by omega) hf).2 h2; omega
  · refine stretchL hsoft b a hab ha fun j h1 h2 hf => ?_
    have := (h j (by omega) hf).1 h2; omega
theorem verL {n : Nat} {ops : List Oper} {Tf : Nat → Tr Value} {Mf : Nat → AMem} {vf : Nat → Value} {wf : Nat → Bool} {ef : Nat → Nat}
    {G : Globals} {xf : Nat → Bool} (hst : ∀ i o, ops[i]? = some o → LStep P G n ops o (Tf i) (Tf (i + 1)) (Mf i) (Mf (i + 1)) (vf i) (wf i) (ef i) (ef (i + 1)) (xf i)) :
    ∀ a b, a ≤ b → b ≤ ops.length → ef a ≤ ef b ∧ (ef a = ef b → Mf b = Mf a) := by
  intro a b
  induction b with
  | zero => intro h _; rw [show a = 0 by omega]; exact ⟨Nat.le_refl _, fun _ => rfl⟩
  | succ b ih =>
    intro h hb
    rcases Nat.lt_or_ge b a with h1 | h1
    · rw [show a = b + 1 by omega]; exact ⟨Nat.le_refl _, fun _ => rfl⟩
    · obtain ⟨h2, h3⟩ := ih h1 (by omega)
      have ho : ops[b]? = some ops[b] := List.getElem?_eq_getElem (by omega)
      rcases (hst b _ ho).ver with ⟨h4, h5⟩ | h4
      · exact ⟨by omega, fun e => by rw [h5]; exact h3 (by omega)⟩
      · exact ⟨by omega, fun e => by omega⟩
theorem lstep_pre {n : Nat} (hn : n < bigger) {ops : List Oper} {Tf : Nat → Tr Value} {Mf : Nat → AMem} {vf : Nat → Value} {wf : Nat → Bool} {ef : Nat → Nat} {fl : List Bool} {G : Globals} {xf : Nat → Bool} (hd : LOk P G n ops xf Tf Mf vf wf ef fl)
    {ρ0 : Emb} {d0 : List Deferred} {listed : Array Bool} {a : Act}
    (hi : LInv N w0 n ops xf (infosS fl ops) (slot (Tf 0)) Mf vf ρ0 d0 ρ listed a w) {i : Nat} (hr : i ∈ Region.ready .any ops.toArray listed) :
    ∃ o x, ops[i]? = some o ∧ (infosS fl ops)[i]? = some x ∧ (tight (infosS fl ops) x = true → Rel N w0 ρ (Mf i) w) ∧ ∀ ρ' u w', ρ.le ρ' → SVR ρ' (vf i) u → tight (infosS fl ops) x = true → x.loud = true → Rel N w0 ρ' (Mf (i + 1)) w' → LInv N w0 n ops xf (infosS fl ops) (slot (Tf 0)) Mf vf ρ0 d0 ρ' (listed.setIfInBounds i true) (a.put o.dst u) w' := by
  obtain ⟨hun, o, ho', hall⟩ := mem_ready.1 hr
  have ho : ops[i]? = some o := by simpa using ho'
  have hil : i < ops.length := (List.getElem?_eq_some_iff.1 ho).1
  obtain ⟨x, hx, hxi, hxd, hxl, hxq⟩ := at_LS hd.len ho
  have hxm : x ∈ infosS fl ops := List.mem_of_getElem? hx
  have hni : ¬ LD listed i := by
    unfold LD
    have : i < listed.size := by rw [hi.size]; exact hil
    simp [this] at hun ⊢
    exact hun
  have hxf : xf i = false := by
    cases h : xf i with
    | false => rfl
    | true => exact absurd (hi.exl i h) hni
  have hmask : ∀ j, x.mask.testBit j = true → LD listed j := mask_closedS hd.len hi.closed hd.edges i o x ho hx hall
  have hmask' : ∀ j y, (infosS fl ops)[j]? = some y → LD listed j → y.mask.testBit i = true → False := by
    intro j y hy hj hb
    have hjl : j < ops.length := by have := (List.getElem?_eq_some_iff.1 hy).1; rw [infosS_length hd.len] at this; exact this
    have hoj : ops[j]? = some ops[j] := List.getElem?_eq_getElem hjl
    exact hni (mask_closedS hd.len hi.closed hd.edges j ops[j] y hoj hy (fun e he hb => hi.closed j _ hoj hj e he hb) i hb)
  -- what it looks at
  have hA : ∀ t ∈ looksOf ops o, VR ρ (slot (Tf i) t) (a.tmps.getD t undef) := by
    intro t ht
    obtain ⟨v, hv, hvr⟩ := hi.tmps.2 t
    have htr := traceL hn hd.st t i (by omega)
    have : Val (fun j => LD listed j ∧ dstOf ops j = some t) (slot (Tf 0) t) vf (slot (Tf i) t) := by
      refine htr.congr fun j => ?_
      constructor
      · rintro ⟨h1, h2⟩
        obtain ⟨oj, hoj, hdj⟩ := dstOf_some h2
        obtain ⟨y, hy, hyi, hyd, _, _⟩ := at_LS hd.len hoj
        have hp := pairsOk_at _ hd.pairs j i y x h1 hy hx
        unfold pairOk at hp
        rw [inLooks_mem (hyd.trans hdj) (by rw [hxl]; exact ht)] at hp
        simp only [Bool.true_or, cond_true] at hp
        rw [hyi] at hp
        exact ⟨hmask j hp, h2⟩
      · rintro ⟨h1, h2⟩
        refine ⟨?_, h2⟩
        rcases Nat.lt_trichotomy j i with h | h | h
        · exact h
        · subst h; exact absurd h1 hni
        · obtain ⟨oj, hoj, hdj⟩ := dstOf_some h2
          obtain ⟨y, hy, hyi, hyd, _, _⟩ := at_LS hd.len hoj
          have hp := pairsOk_at _ hd.pairs i j x y h hx hy
          unfold pairOk at hp
          rw [inLooks_mem (hyd.trans hdj) (by rw [hxl]; exact ht)] at hp
          simp only [Bool.true_or, Bool.or_true, cond_true] at hp
          rw [hxi] at hp
          exact (hmask' j y hy h1 hp).elim
    rw [hv.uniq this] at hvr
    exact hvr.known ((hd.st i o ho).known t ht)
  obtain ⟨p, hpm, hpc, hpl, hrel⟩ := hi.mem
  have hlt : tight (infosS fl ops) x = true → ∀ y ∈ infosS fl ops, y.loud = true → (LD listed y.idx ↔ y.idx < i) := by
    intro ht y hy hyl
    have h1 := List.all_eq_true.1 ht y hy
    rw [hyl, hxi] at h1
    simp only [cond_true] at h1
    obtain ⟨oy, hoy, hyat⟩ := L_atS hd.len hy
    cases hb : Nat.beq y.idx i with
    | true =>
      have := Nat.eq_of_beq_eq_true hb
      rw [this]
      constructor
      · intro h; exact absurd h hni
      · intro h; omega
    | false =>
      have hne : y.idx ≠ i := fun e => by rw [e, Nat.beq_refl] at hb; cases hb
      rw [hb] at h1
      simp only [cond_false] at h1
      cases hb2 : Nat.ble (Nat.succ y.idx) i with
      | true =>
        rw [hb2] at h1
        simp only [cond_true] at h1
        have : Nat.succ y.idx ≤ i := by simpa using hb2
        exact ⟨fun _ => this, fun _ => hmask _ h1⟩
      | false =>
        rw [hb2] at h1
        simp only [cond_false] at h1
        have : ¬ Nat.succ y.idx ≤ i := by intro h; rw [Nat.ble_eq_true_of_le h] at hb2; cases hb2
        constructor
        · intro h; exact (hmask' _ y hyat h h1).elim
        · intro h; exact absurd h this
  have hMi : tight (infosS fl ops) x = true → Mf p = Mf i := by
    intro ht
    refine stretchL' hd.soft hpm (by omega) fun j hj hq => ?_
    obtain ⟨y, hy, hyi, _, _, hyq⟩ := at_LS hd.len (List.getElem?_eq_getElem hj : ops[j]? = some ops[j])
    have hyl : y.loud = true := hyq.2 ⟨hd.hard j hj hq, hq⟩
    have hym := List.mem_of_getElem? hy
    have h1 := hpl y hym hyl
    have h2 := hlt ht y hym hyl
    rw [hyi] at h1 h2
    rw [← h1, h2]
  have hDset : ∀ j, LD (listed.setIfInBounds i true) j ↔ LD listed j ∨ j = i := LD_set (by rw [hi.size]; exact hil)
  -- what holds then
  have hnew : ∀ (ρ' : Emb) (u : Value) (w' : World), ρ.le ρ' → SVR ρ' (vf i) u →
      (∃ p, p ≤ ops.length ∧ (p = 0 ∨ ∃ y ∈ infosS fl ops, y.loud = true ∧ p = y.idx + 1) ∧ (∀ y ∈ infosS fl ops, y.loud = true → (LD (listed.setIfInBounds i true) y.idx ↔ y.idx < p)) ∧ Rel N w0 ρ' (Mf p) w') →
      LInv N w0 n ops xf (infosS fl ops) (slot (Tf 0)) Mf vf ρ0 d0 ρ' (listed.setIfInBounds i true) (a.put o.dst u) w' := by
    intro ρ' u w' hle hu hm
    refine ⟨by simp [hi.size], ?_, hm, ⟨?_, ?_⟩, by rw [put_defers]; exact hi.defers, hi.le.trans hle, fun j hj => (hDset j).2 (.inl (hi.exl j hj))⟩
    · intro j oj hoj hj e he hb
      rw [hDset]
      rw [hDset] at hj
      rcases hj with hj | rfl
      · exact .inl (hi.closed j oj hoj hj e he hb)
      · rw [ho] at hoj
        cases hoj
        exact .inl (hall e he hb)
    · cases o.dst with
      | none => exact hi.tmps.1
      | some d => simp [Act.put, hi.tmps.1]
    · intro t
      obtain ⟨v, hv, hvr⟩ := hi.tmps.2 t
      have hdi : dstOf ops i = o.dst := by unfold dstOf; rw [ho]; rfl
      by_cases e : o.dst = some t
      · refine ⟨vf i, .inr ⟨i, ⟨(hDset i).2 (.inr rfl), by rw [hdi, e]⟩, ?_, rfl⟩, ?_⟩
        · rintro j ⟨h1, h2⟩
          rcases (hDset j).1 h1 with h1 | rfl
          · rcases Nat.lt_or_ge i j with h | h
            · obtain ⟨oj, hoj, hdj⟩ := dstOf_some h2
              obtain ⟨y, hy, hyi, hyd, _, _⟩ := at_LS hd.len hoj
              have hp := pairsOk_at _ hd.pairs i j x y h hx hy
              unfold pairOk at hp
              rw [sameDst_eq (hxd.trans e) (hyd.trans hdj)] at hp
              simp only [Bool.true_or, Bool.or_true, cond_true] at hp
              rw [hxi] at hp
              exact (hmask' j y hy h1 hp).elim
            · exact h
          · exact Nat.le_refl _
        · have hs := hd.st i o ho
          have hput := hs.put
          unfold aput at hput
          rw [e] at hput
          obtain ⟨hb, _⟩ := cond_some hput
          have hb : Nat.succ t ≤ n := by simpa using hb
          rw [e]
          show SVR ρ' _ ((a.tmps.setIfInBounds t u).getD t undef)
          rw [getD_set, if_pos ⟨rfl, by rw [hi.tmps.1]; omega⟩]
          exact hu
      · refine ⟨v, hv.congr fun j => ?_, ?_⟩
        · constructor
          · rintro ⟨h1, h2⟩; exact ⟨(hDset j).2 (.inl h1), h2⟩
          · rintro ⟨h1, h2⟩
            rcases (hDset j).1 h1 with h1 | rfl
            · exact ⟨h1, h2⟩
            · rw [hdi] at h2; exact absurd h2 e
        · have : (a.put o.dst u).tmps.getD t undef = a.tmps.getD t undef := by
            cases hdst : o.dst with
            | none => rfl
            | some d =>
              show (a.tmps.setIfInBounds d u).getD t undef = _
              rw [getD_set, if_neg]
              rintro ⟨rfl, _⟩
              exact e hdst
          rw [this]
          exact hvr.mono hle
  -- memory, after a loud one, after a quiet one
  have hml : ∀ ρ' w', tight (infosS fl ops) x = true → x.loud = true → Rel N w0 ρ' (Mf (i + 1)) w' →
      ∃ p, p ≤ ops.length ∧ (p = 0 ∨ ∃ y ∈ infosS fl ops, y.loud = true ∧ p = y.idx + 1) ∧ (∀ y ∈ infosS fl ops, y.loud = true → (LD (listed.setIfInBounds i true) y.idx ↔ y.idx < p)) ∧ Rel N w0 ρ' (Mf p) w' := by
    intro ρ' w' ht hl hrel'
    refine ⟨i + 1, by omega, .inr ⟨x, hxm, hl, by rw [hxi]⟩, fun y hy hyl => ?_, hrel'⟩
    rw [hDset, hlt ht y hy hyl]
    omega
  have hmq : ∀ ρ' w', x.loud = false → Rel N w0 ρ' (Mf p) w' →
      ∃ p, p ≤ ops.length ∧ (p = 0 ∨ ∃ y ∈ infosS fl ops, y.loud = true ∧ p = y.idx + 1) ∧ (∀ y ∈ infosS fl ops, y.loud = true → (LD (listed.setIfInBounds i true) y.idx ↔ y.idx < p)) ∧ Rel N w0 ρ' (Mf p) w' := by
    intro ρ' w' hl hrel'
    refine ⟨p, hpm, hpc, fun y hy hyl => ?_, hrel'⟩
    rw [hDset]
    have hne : y.idx ≠ i := by
      intro e
      obtain ⟨oy, _, hyat⟩ := L_atS hd.len hy
      rw [e, hx] at hyat
      cases hyat
      rw [hl] at hyl
      cases hyl
    constructor
    · rintro (h | h)
      · exact (hpl y hy hyl).1 h
      · exact absurd h hne
    · intro h; exact .inl ((hpl y hy hyl).2 h)
  exact ⟨o, x, ho, hx, fun ht => by rw [← hMi ht]; exact hrel, fun ρ' u w' hle hu ht hl hr' => hnew ρ' u w' hle hu (hml ρ' w' ht hl hr')⟩
theorem lstep_sound {n : Nat} (hn : n < bigger) {ops : List Oper} {Tf : Nat → Tr Value} {Mf : Nat → AMem} {vf : Nat → Value} {wf : Nat → Bool} {ef : Nat → Nat} {fl : List Bool} {G : Globals} (hf : Fine G N w0) {xf : Nat → Bool} (hd : LOk P G n ops xf Tf Mf vf wf ef fl)
    {ρ0 : Emb} {d0 : List Deferred} {listed : Array Bool} {a : Act} {ro' : Option Nat} {k : Nat} {Q : Exit → Act → World → Prop} {K : Act → World → Prop}
    (hi : LInv N w0 n ops xf (infosS fl ops) (slot (Tf 0)) Mf vf ρ0 d0 ρ listed a w) {i : Nat} (hr : i ∈ Region.ready .any ops.toArray listed)
    (hK : ∀ ρ' o u w', ops[i]? = some o → LInv N w0 n ops xf (infosS fl ops) (slot (Tf 0)) Mf vf ρ0 d0 ρ' (listed.setIfInBounds i true) (a.put o.dst u) w' → K (a.put o.dst u) w') : wpOpIn (fen ro') k P ops.toArray Q i K a w := by
  obtain ⟨hun, o, ho', hall⟩ := mem_ready.1 hr
  have ho : ops[i]? = some o := by simpa using ho'
  have hil : i < ops.length := (List.getElem?_eq_some_iff.1 ho).1
  obtain ⟨x, hx, hxi, hxd, hxl, hxq⟩ := at_LS hd.len ho
  have hxm : x ∈ infosS fl ops := List.mem_of_getElem? hx
  have hni : ¬ LD listed i := by
    unfold LD
    have : i < listed.size := by rw [hi.size]; exact hil
    simp [this] at hun ⊢
    exact hun
  have hxf : xf i = false := by
    cases h : xf i with
    | false => rfl
    | true => exact absurd (hi.exl i h) hni
  have hmask : ∀ j, x.mask.testBit j = true → LD listed j := mask_closedS hd.len hi.closed hd.edges i o x ho hx hall
  have hmask' : ∀ j y, (infosS fl ops)[j]? = some y → LD listed j → y.mask.testBit i = true → False := by
    intro j y hy hj hb
    have hjl : j < ops.length := by have := (List.getElem?_eq_some_iff.1 hy).1; rw [infosS_length hd.len] at this; exact this
    have hoj : ops[j]? = some ops[j] := List.getElem?_eq_getElem hjl
    exact hni (mask_closedS hd.len hi.closed hd.edges j ops[j] y hoj hy (fun e he hb => hi.closed j _ hoj hj e he hb) i hb)
  -- what it looks at
  have hA : ∀ t ∈ looksOf ops o, VR ρ (slot (Tf i) t) (a.tmps.getD t undef) := by
    intro t ht
    obtain ⟨v, hv, hvr⟩ := hi.tmps.2 t
    have htr := traceL hn hd.st t i (by omega)
    have : Val (fun j => LD listed j ∧ dstOf ops j = some t) (slot (Tf 0) t) vf (slot (Tf i) t) := by
      refine htr.congr fun j => ?_
      constructor
      · rintro ⟨h1, h2⟩
        obtain ⟨oj, hoj, hdj⟩ := dstOf_some h2
        obtain ⟨y, hy, hyi, hyd, _, _⟩ := at_LS hd.len hoj
        have hp := pairsOk_at _ hd.pairs j i y x h1 hy hx
        unfold pairOk at hp
        rw [inLooks_mem (hyd.trans hdj) (by rw [hxl]; exact ht)] at hp
        simp only [Bool.true_or, cond_true] at hp
        rw [hyi] at hp
        exact ⟨hmask j hp, h2⟩
      · rintro ⟨h1, h2⟩
        refine ⟨?_, h2⟩
        rcases Nat.lt_trichotomy j i with h | h | h
        · exact h
        · subst h; exact absurd h1 hni
        · obtain ⟨oj, hoj, hdj⟩ := dstOf_some h2
          obtain ⟨y, hy, hyi, hyd, _, _⟩ := at_LS hd.len hoj
          have hp := pairsOk_at _ hd.pairs i j x y h hx hy
          unfold pairOk at hp
          rw [inLooks_mem (hyd.trans hdj) (by rw [hxl]; exact ht)] at hp
          simp only [Bool.true_or, Bool.or_true, cond_true] at hp
          rw [hxi] at hp
          exact (hmask' j y hy h1 hp).elim
    rw [hv.uniq this] at hvr
    exact hvr.known ((hd.st i o ho).known t ht)
  obtain ⟨p, hpm, hpc, hpl, hrel⟩ := hi.mem
  have hlt : tight (infosS fl ops) x = true → ∀ y ∈ infosS fl ops, y.loud = true → (LD listed y.idx ↔ y.idx < i) := by
    intro ht y hy hyl
    have h1 := List.all_eq_true.1 ht y hy
    rw [hyl, hxi] at h1
    simp only [cond_true] at h1
    obtain ⟨oy, hoy, hyat⟩ := L_atS hd.len hy
    cases hb : Nat.beq y.idx i with
    | true =>
      have := Nat.eq_of_beq_eq_true hb
      rw [this]
      constructor
      · intro h; exact absurd h hni
      · intro h; omega
    | false =>
      have hne : y.idx ≠ i := fun e => by rw [e, Nat.beq_refl] at hb; cases hb
      rw [hb] at h1
      simp only [cond_false] at h1
      cases hb2 : Nat.ble (Nat.succ y.idx) i with
      | true =>
        rw [hb2] at h1
        simp only [cond_true] at h1
        have : Nat.succ y.idx ≤ i := by simpa using hb2
        exact ⟨fun _ => this, fun _ => hmask _ h1⟩
      | false =>
        rw [hb2] at h1
        simp only [cond_false] at h1
        have : ¬ Nat.succ y.idx ≤ i := by intro h; rw [Nat.ble_eq_true_of_le h] at hb2; cases hb2
        constructor
        · intro h; exact (hmask' _ y hyat h h1).elim
        · intro h; exact absurd h this
  have hMi : tight (infosS fl ops) x = true → Mf p = Mf i := by
    intro ht
    refine stretchL' hd.soft hpm (by omega) fun j hj hq => ?_
    obtain ⟨y, hy, hyi, _, _, hyq⟩ := at_LS hd.len (List.getElem?_eq_getElem hj : ops[j]? = some ops[j])
    have hyl : y.loud = true := hyq.2 ⟨hd.hard j hj hq, hq⟩
    have hym := List.mem_of_getElem? hy
    have h1 := hpl y hym hyl
    have h2 := hlt ht y hym hyl
    rw [hyi] at h1 h2
    rw [← h1, h2]
  have hDset : ∀ j, LD (listed.setIfInBounds i true) j ↔ LD listed j ∨ j = i := LD_set (by rw [hi.size]; exact hil)
  -- what holds then
  have hnew : ∀ (ρ' : Emb) (u : Value) (w' : World), ρ.le ρ' → SVR ρ' (vf i) u →
      (∃ p, p ≤ ops.length ∧ (p = 0 ∨ ∃ y ∈ infosS fl ops, y.loud = true ∧ p = y.idx + 1) ∧ (∀ y ∈ infosS fl ops, y.loud = true → (LD (listed.setIfInBounds i true) y.idx ↔ y.idx < p)) ∧ Rel N w0 ρ' (Mf p) w') →
      LInv N w0 n ops xf (infosS fl ops) (slot (Tf 0)) Mf vf ρ0 d0 ρ' (listed.setIfInBounds i true) (a.put o.dst u) w' := by
    intro ρ' u w' hle hu hm
    refine ⟨by simp [hi.size], ?_, hm, ⟨?_, ?_⟩, by rw [put_defers]; exact hi.defers, hi.le.trans hle, fun j hj => (hDset j).2 (.inl (hi.exl j hj))⟩
    · intro j oj hoj hj e he hb
      rw [hDset]
      rw [hDset] at hj
      rcases hj with hj | rfl
      · exact .inl (hi.closed j oj hoj hj e he hb)
      · rw [ho] at hoj
        cases hoj
        exact .inl (hall e he hb)
    · cases o.dst with
      | none => exact hi.tmps.1
      | some d => simp [Act.put, hi.tmps.1]
    · intro t
      obtain ⟨v, hv, hvr⟩ := hi.tmps.2 t
      have hdi : dstOf ops i = o.dst := by unfold dstOf; rw [ho]; rfl
      by_cases e : o.dst = some t
      · refine ⟨vf i, .inr ⟨i, ⟨(hDset i).2 (.inr rfl), by rw [hdi, e]⟩, ?_, rfl⟩, ?_⟩
        · rintro j ⟨h1, h2⟩
          rcases (hDset j).1 h1 with h1 | rfl
          · rcases Nat.lt_or_ge i j with h | h
            · obtain ⟨oj, hoj, hdj⟩ := dstOf_some h2
              obtain ⟨y, hy, hyi, hyd, _, _⟩ := at_LS hd.len hoj
              have hp := pairsOk_at _ hd.pairs i j x y h hx hy
              unfold pairOk at hp
              rw [sameDst_eq (hxd.trans e) (hyd.trans hdj)] at hp
              simp only [Bool.true_or, Bool.or_true, cond_true] at hp
              rw [hxi] at hp
              exact (hmask' j y hy h1 hp).elim
            · exact h
          · exact Nat.le_refl _
        · have hs := hd.st i o ho
          have hput := hs.put
          unfold aput at hput
          rw [e] at hput
          obtain ⟨hb, _⟩ := cond_some hput
          have hb : Nat.succ t ≤ n := by simpa using hb
          rw [e]
          show SVR ρ' _ ((a.tmps.setIfInBounds t u).getD t undef)
          rw [getD_set, if_pos ⟨rfl, by rw [hi.tmps.1]; omega⟩]
          exact hu
      · refine ⟨v, hv.congr fun j => ?_, ?_⟩
        · constructor
          · rintro ⟨h1, h2⟩; exact ⟨(hDset j).2 (.inl h1), h2⟩
          · rintro ⟨h1, h2⟩
            rcases (hDset j).1 h1 with h1 | rfl
            · exact ⟨h1, h2⟩
            · rw [hdi] at h2; exact absurd h2 e
        · have : (a.put o.dst u).tmps.getD t undef = a.tmps.getD t undef := by
            cases hdst : o.dst with
            | none => rfl
            | some d =>
              show (a.tmps.setIfInBounds d u).getD t undef = _
              rw [getD_set, if_neg]
              rintro ⟨rfl, _⟩
              exact e hdst
          rw [this]
          exact hvr.mono hle
  -- memory, after a loud one, after a quiet one
  have hml : ∀ ρ' w', tight (infosS fl ops) x = true → x.loud = true → Rel N w0 ρ' (Mf (i + 1)) w' →
      ∃ p, p ≤ ops.length ∧ (p = 0 ∨ ∃ y ∈ infosS fl ops, y.loud = true ∧ p = y.idx + 1) ∧ (∀ y ∈ infosS fl ops, y.loud = true → (LD (listed.setIfInBounds i true) y.idx ↔ y.idx < p)) ∧ Rel N w0 ρ' (Mf p) w' := by
    intro ρ' w' ht hl hrel'
    refine ⟨i + 1, by omega, .inr ⟨x, hxm, hl, by rw [hxi]⟩, fun y hy hyl => ?_, hrel'⟩
    rw [hDset, hlt ht y hy hyl]
    omega
  have hmq : ∀ ρ' w', x.loud = false → Rel N w0 ρ' (Mf p) w' →
      ∃ p, p ≤ ops.length ∧ (p = 0 ∨ ∃ y ∈ infosS fl ops, y.loud = true ∧ p = y.idx + 1) ∧ (∀ y ∈ infosS fl ops, y.loud = true → (LD (listed.setIfInBounds i true) y.idx ↔ y.idx < p)) ∧ Rel N w0 ρ' (Mf p) w' := by
    intro ρ' w' hl hrel'
    refine ⟨p, hpm, hpc, fun y hy hyl => ?_, hrel'⟩
    rw [hDset]
    have hne : y.idx ≠ i := by
      intro e
      obtain ⟨oy, _, hyat⟩ := L_atS hd.len hy
      rw [e, hx] at hyat
      cases hyat
      rw [hl] at hyl
      cases hyl
    constructor
    · rintro (h | h)
      · exact (hpl y hy hyl).1 h
      · exact absurd h hne
    · intro h; exact .inl ((hpl y hy hyl).2 h)
  have hs := hd.st i o ho
  unfold wpOpIn
  simp only [ho']
  rw [gd_eq' ops o hA, hs.wd]
  cases hw : wf i with
  | false =>
    rw [if_neg (by simp)]
    obtain ⟨hv, hM⟩ := hs.off hw
    refine ⟨fun _ _ => trivial, hK ρ o _ w ho (hnew ρ undef w (Emb.le.refl _) (.inr (by rw [hv]; exact undefR)) ?_)⟩
    cases hl : x.loud with
    | true =>
      have ht : tight (infosS fl ops) x = true := by rcases hd.loud x hxm with h | h; exact h; rw [h] at hl; cases hl
      exact hml ρ w ht hl (by rw [hM, ← hMi ht]; exact hrel)
    | false => exact hmq ρ w hl hrel
  | true =>
    rw [if_pos rfl]
    cases ht : tight (infosS fl ops) x with
    | true =>
      obtain ⟨r, M1, h1, h2, h3⟩ := hs.on hw hxf
      rw [← hMi ht] at h1
      have h1 := h1 N w0 hf
      refine h1.run ρ w a ro' k _ _ hrel (aenv_R' hA hrel h1.ok h1.roms) ?_
      intro ρ' r' w' hle hv hrel' hq
      refine hK ρ' o _ w' ho (hnew ρ' _ w' hle (by rw [h2]; exact hv) ?_)
      cases hl : x.loud with
      | false =>
        have hM1 : M1 = Mf p := by
          cases hqo : quietOp o.op with
          | true => exact (hq hqo).1
          | false =>
            rw [hqo] at h3
            simp only [cond_false] at h3
            rw [← h3, hMi ht]
            refine hd.soft i hil fun hf => ?_
            rw [hxq.2 ⟨by rw [hqo]; simp, hf⟩] at hl
            cases hl
        exact hmq ρ' w' hl (by rw [← hM1]; exact hrel')
      | true =>
        have hqo : quietOp o.op = false := by cases h : quietOp o.op with | false => rfl | true => exact absurd h (hxq.1 hl).1
        rw [hqo] at h3
        simp only [cond_false] at h3
        exact hml ρ' w' ht hl (by rw [h3]; exact hrel')
    | false =>
      have hl : x.loud = false := by rcases hd.loud x hxm with h | h; rw [h] at ht; cases ht; exact h
      have hfe : feasible (infosS fl ops) x p = true := by
        unfold feasible
        rw [Bool.and_eq_true]
        constructor
        · rcases hpc with rfl | ⟨y, hy, hyl, rfl⟩
          · rfl
          · rw [Bool.or_eq_true]
            exact .inr (List.any_eq_true.2 ⟨y, hy, by rw [hyl, Bool.true_and]; exact Nat.beq_refl _⟩)
        · refine List.all_eq_true.2 fun y hy => ?_
          cases hyl : y.loud with
          | false => rfl
          | true =>
            simp only [cond_true, Bool.and_eq_true]
            obtain ⟨oy, _, hyat⟩ := L_atS hd.len hy
            constructor
            · cases hb : x.mask.testBit y.idx with
              | false => rfl
              | true => exact Nat.ble_eq_true_of_le ((hpl y hy hyl).1 (hmask _ hb))
            · cases hb : y.mask.testBit x.idx with
              | false => rfl
              | true =>
                rw [hxi] at hb
                have : ¬ y.idx < p := fun h => hmask' _ y hyat ((hpl y hy hyl).2 h) hb
                simp
                omega
      obtain ⟨r, M1, h1, h2, h3⟩ := hd.again i o x hxf ho hx hw ht p hpm hfe
      have h1 := h1 N w0 hf
      refine h1.run ρ w a ro' k _ _ hrel (aenv_R' hA hrel h1.ok h1.roms) ?_
      intro ρ' r' w' hle hv hrel' hq
      refine hK ρ' o _ w' ho (hnew ρ' _ w' hle (by rw [← h2]; exact hv) ?_)
      have hM1 : M1 = Mf p := by
        rcases h3 with hqo | h3
        · exact (hq hqo).1
        · exact h3
      exact hmq ρ' w' hl (by rw [← hM1]; exact hrel')
theorem lany_sound {n : Nat} (hn : n < bigger) {ops : List Oper} {Tf : Nat → Tr Value} {Mf : Nat → AMem} {vf : Nat → Value} {wf : Nat → Bool} {ef : Nat → Nat} {fl : List Bool} {G : Globals} (hf : Fine G N w0) {xf : Nat → Bool} (hd : LOk P G n ops xf Tf Mf vf wf ef fl)
    {ρ0 : Emb} {d0 : List Deferred} {ro' : Option Nat} {k : Nat} {Q : Exit → Act → World → Prop}
    (hQ : ∀ ρ' a' w', ρ0.le ρ' → Rel N w0 ρ' (Mf ops.length) w' → TJ ρ' n (Tf ops.length) a'.tmps → a'.defers = d0 → Q .normal a' w') :
    ∀ (fuel : Nat) (listed : Array Bool) (ρ : Emb) (a : Act) (w : World), LInv N w0 n ops xf (infosS fl ops) (slot (Tf 0)) Mf vf ρ0 d0 ρ listed a w →
      (List.range ops.length).countP (fun i => !(listed.getD i false)) ≤ fuel → wpAnyIn (fen ro') k P .any ops.toArray Q fuel listed a w := by
  intro fuel
  have hend : ∀ (listed : Array Bool) (ρ : Emb) (a : Act) (w : World), LInv N w0 n ops xf (infosS fl ops) (slot (Tf 0)) Mf vf ρ0 d0 ρ listed a w → (∀ i, i < ops.length → LD listed i) → Q .normal a w := by
    intro listed ρ a w hi hall
    obtain ⟨p, hpm, hpc, hpl, hrel⟩ := hi.mem
    have hM : Mf p = Mf ops.length := by
      refine stretchL' hd.soft hpm (Nat.le_refl _) fun j hj hq => ?_
      obtain ⟨y, hy, hyi, _, _, hyq⟩ := at_LS hd.len (List.getElem?_eq_getElem hj : ops[j]? = some ops[j])
      have hyl : y.loud = true := hyq.2 ⟨hd.hard j hj hq, hq⟩
      have h1 := hpl y (List.mem_of_getElem? hy) hyl
      rw [hyi] at h1
      exact ⟨fun _ => hj, fun _ => h1.1 (hall j hj)⟩
    refine hQ ρ a w hi.le (by rw [← hM]; exact hrel) ⟨hi.tmps.1, hn, fun t => ?_⟩ hi.defers
    obtain ⟨v, hv, hvr⟩ := hi.tmps.2 t
    have htr := traceL hn hd.st t ops.length (Nat.le_refl _)
    have : Val (fun j => LD listed j ∧ dstOf ops j = some t) (slot (Tf 0) t) vf (slot (Tf ops.length) t) := by
      refine htr.congr fun j => ?_
      constructor
      · rintro ⟨h1, h2⟩; exact ⟨hall j h1, h2⟩
      · rintro ⟨h1, h2⟩
        obtain ⟨oj, hoj, _⟩ := dstOf_some h2
        exact ⟨(List.getElem?_eq_some_iff.1 hoj).1, h2⟩
    rw [hv.uniq this] at hvr
    exact hvr
  have hnone : ∀ (listed : Array Bool), listed.size = ops.length → Region.ready .any ops.toArray listed = [] → ∀ i, i < ops.length → LD listed i := by
    intro listed hsz hr i
    induction i using Nat.strongRecOn with
    | _ i ih =>
      intro hi
      cases hl : listed.getD i false with
      | true => exact hl
      | false =>
        have ho : ops[i]? = some ops[i] := List.getElem?_eq_getElem hi
        have : i ∈ Region.ready .any ops.toArray listed := mem_ready.2 ⟨by
          have : i < listed.size := by rw [hsz]; exact hi
          simp [this] at hl ⊢
          exact hl, ops[i], by simp [hi], fun e he hb => by
            have := edgesOk_at ops 0 hd.edges i _ ho e he hb
            exact ih e.on (by omega) (by omega)⟩
        rw [hr] at this
        cases this
  induction fuel with
  | zero =>
    intro listed ρ a w hi hc
    have hall : ∀ i, i < ops.length → LD listed i := by
      intro i hil
      have h0 := List.countP_eq_zero.1 (Nat.le_zero.1 hc) i (List.mem_range.2 hil)
      unfold LD
      simpa using h0
    refine ⟨?_, hend listed ρ a w hi hall⟩
    rw [List.eq_nil_iff_forall_not_mem]
    intro j hj
    obtain ⟨hun, o, ho', _⟩ := mem_ready.1 hj
    have hjl : j < ops.length := by have := (Array.getElem?_eq_some_iff.1 ho').1; simpa using this
    have h1 := hall j hjl
    unfold LD at h1
    have : j < listed.size := by rw [hi.size]; exact hjl
    simp [this] at hun h1
    rw [hun] at h1
    cases h1
  | succ fuel ih =>
    intro listed ρ a w hi hc
    refine ⟨fun hr => hend listed ρ a w hi (hnone listed hi.size hr), fun i hr => ?_⟩
    refine lstep_sound hn hf hd hi hr fun ρ' o u w' _ hi' => ih _ ρ' _ w' hi' ?_
    obtain ⟨hun, o, ho', _⟩ := mem_ready.1 hr
    have hil : i < ops.length := by have := (Array.getElem?_eq_some_iff.1 ho').1; simpa using this
    have hsz : i < listed.size := by rw [hi.size]; exact hil
    refine Nat.le_of_lt_succ (Nat.lt_of_lt_of_le (countP_lt (a := i) _ ?_ (List.mem_range.2 hil) ?_ ?_) hc)
    · intro y hy
      simp only [Bool.not_eq_true'] at hy ⊢
      cases h : listed.getD y false with
      | false => rfl
      | true => rw [getD_set_true h] at hy; cases hy
    · simp [hsz] at hun ⊢; exact hun
    · simp [hsz]
/-- Which operations change memory. -/
def flagsL : List Nat → List Oper → List Bool
  | v :: w :: vs, o :: ops => (!quietOp o.op && !(Nat.beq v w)) :: flagsL (w :: vs) ops
  | _, _ => []
theorem flagsL_at : ∀ (ops : List Oper) (vs : List Nat), vs.length = ops.length + 1 → (flagsL vs ops).length = ops.length ∧ ∀ (i : Nat) (o : Oper), ops[i]? = some o → ∃ v w, vs[i]? = some v ∧ vs[i + 1]? = some w ∧ (flagsL vs ops)[i]? = some (!quietOp o.op && !(Nat.beq v w)) := by
  intro ops
  induction ops with
  | nil => intro vs h; exact ⟨by cases vs with | nil => rfl | cons v vs => cases vs <;> rfl, fun i o h => by simp at h⟩
  | cons o ops ih =>
    intro vs h
    match vs, h with
    | v :: w :: vs, h =>
      obtain ⟨h1, h2⟩ := ih (w :: vs) (by simpa using h)
      refine ⟨by simp [flagsL, h1], fun i o' ho => ?_⟩
      cases i with
      | zero => simp at ho; subst ho; exact ⟨v, w, rfl, rfl, rfl⟩
      | succ i =>
        obtain ⟨v', w', h3, h4, h5⟩ := h2 i o' (by simpa using ho)
        exact ⟨v', w', by simpa using h3, by simpa using h4, by simpa [flagsL] using h5⟩
/-! ### New variables whose place in the order is free -/
/-- The operation, the type, the slot. -/
abbrev Lz := List (Nat × Nat × Nat)
structure PendAt (P : Program) (N : Prot) (M : AMem) (ρ : Emb) (tmps : Array Value) (w : World) (t d B : Nat) : Prop where
  slot : tmps.getD d undef = .pointer (some ⟨B, 0, none⟩)
  obj : ∃ v, zeroOf P t = some v ∧ w.heap[B]? = some (.cells v.cells t (0, 0))
  own : ¬ N.F B
  free : ∀ b o l, M.get b = some o → o.live = true → o.rom? = false → ρ b = some l → l.blk ≠ B
def Pend (P : Program) (N : Prot) (M : AMem) (ρ : Emb) (tmps : Array Value) (w : World) (D : Nat → Prop) (lz : Lz) (Bf : Nat → Nat) : Prop :=
  (∀ q ∈ lz, D q.1 → PendAt P N M ρ tmps w q.2.1 q.2.2 (Bf q.1)) ∧ ∀ q ∈ lz, ∀ q' ∈ lz, D q.1 → D q'.1 → q.1 ≠ q'.1 → Bf q.1 ≠ Bf q'.1
noncomputable def adoptM (P : Program) : Lz → AMem → Option AMem
  | [], M => some M
  | q :: l, M => match zeroOf P q.2.1 with
    | some v => bif Nat.ble (Nat.succ (Nat.succ M.nxt)) bigger then adoptM P l (M.alloc (.row v.cells.toList 0)) else none
    | none => none
def nodupL : Lz → Bool
  | [] => true
  | q :: l => !(l.any fun q' => Nat.beq q'.1 q.1) && nodupL l
theorem adoptM_sound (hz : zerosFine P) {tmps : Array Value} {Bf : Nat → Nat} : ∀ (lz : Lz) (ρ : Emb) (M M' : AMem), adoptM P lz M = some M' → nodupL lz = true →
    Rel N w0 ρ M w → (∀ q ∈ lz, PendAt P N M ρ tmps w q.2.1 q.2.2 (Bf q.1)) → (∀ q ∈ lz, ∀ q' ∈ lz, q.1 ≠ q'.1 → Bf q.1 ≠ Bf q'.1) →
    ∃ ρ', ρ.le ρ' ∧ Rel N w0 ρ' M' w ∧ ∀ k q, lz[k]? = some q → ρ' (M.nxt + k) = some ⟨Bf q.1, 0, 0, 0⟩ := by
  intro lz
  induction lz with
  | nil =>
    intro ρ M M' h _ hr _ _
    cases h
    exact ⟨ρ, Emb.le.refl _, hr, fun k q h => by simp at h⟩
  | cons q l ih =>
    intro ρ M M' h hnd hr hp hb
    have h' : (match zeroOf P q.2.1 with
      | some v => bif Nat.ble (Nat.succ (Nat.succ M.nxt)) bigger then adoptM P l (M.alloc (.row v.cells.toList 0)) else none
      | none => none) = some M' := h
    split at h'
    rotate_left
    · cases h'
    rename_i v hzv
    obtain ⟨hlim, h'⟩ := cond_some h'
    have hl1 : Nat.succ M.nxt < bigger := by have := hlim; simp at this; omega
    simp only [nodupL, Bool.and_eq_true, Bool.not_eq_true'] at hnd
    have hq := hp q (by simp)
    obtain ⟨v2, hz2, hw⟩ := hq.obj
    rw [hzv] at hz2
    cases hz2
    have hlt := (Array.getElem?_eq_some_iff.1 hw).1
    have hself : ∀ x ∈ v.cells.toList, Self x := by
      unfold zeroOf at hzv
      split at hzv
      · rename_i i hi; exact hz _ i v hi hzv
      · cases hzv
    obtain ⟨hle, hr1⟩ := hr.adopt (o := .row v.cells.toList 0) (B := Bf q.1) hl1 hlt hq.own hq.free rfl (fun _ => ⟨v.cells, q.2.1, hw, fun j x hj => ⟨x, by rw [Nat.zero_add]; simpa using hj, hself x (List.mem_of_getElem? hj) _⟩, rfl, fun h => absurd rfl h⟩)
    have hext := ext_self ρ M.nxt ⟨Bf q.1, 0, 0, 0⟩
    have hne : ∀ q' ∈ l, q'.1 ≠ q.1 := by
      intro q' hq' e
      have h1 : (l.any fun q' => Nat.beq q'.1 q.1) = true := List.any_eq_true.2 ⟨q', hq', by rw [e]; exact Nat.beq_refl _⟩
      rw [h1] at hnd
      cases hnd.1
    have hrest : ∀ q' ∈ l, PendAt P N (M.alloc (.row v.cells.toList 0)) (ext ρ M.nxt ⟨Bf q.1, 0, 0, 0⟩) tmps w q'.2.1 q'.2.2 (Bf q'.1) := by
      intro q' hq'
      have hp' := hp q' (by simp [hq'])
      refine ⟨hp'.slot, hp'.obj, hp'.own, ?_⟩
      intro b o l2 g1 g2 g3 g4
      rw [AMem.get_alloc hr.lim] at g1
      unfold ext at g4
      split at g1
      · rename_i e
        rw [if_pos e] at g4
        cases g4
        exact hb q (by simp) q' (by simp [hq']) (hne q' hq').symm
      · rename_i e
        rw [if_neg e] at g4
        exact hp'.free b o l2 g1 g2 g3 g4
    obtain ⟨ρ', h1, h2, h3⟩ := ih _ _ _ h' hnd.2 hr1 hrest (fun q1 h1 q2 h2 => hb q1 (by simp [h1]) q2 (by simp [h2]))
    refine ⟨ρ', hle.trans h1, h2, fun k q2 hk => ?_⟩
    cases k with
    | zero =>
      simp at hk
      subst hk
      exact h1 _ _ hext
    | succ k =>
      have := h3 k q2 (by simpa using hk)
      rw [show M.nxt + (k + 1) = (M.alloc (.row v.cells.toList 0)).nxt + k by show M.nxt + (k + 1) = Nat.succ M.nxt + k; omega]
      exact this
/-- Before all of them are there. -/
structure ZOk (P : Program) (G : Globals) (n : Nat) (ops : List Oper) (lz : Lz) (M0 : AMem) (Tf : Nat → Tr Value) (vf : Nat → Value) (wf : Nat → Bool) (fl : List Bool) : Prop where
  lzs : ∀ q ∈ lz, ∃ o v, ops[q.1]? = some o ∧ o.op = .alloc q.2.1 ∧ o.dst = some q.2.2 ∧ o.guard = none ∧ zeroOf P q.2.1 = some v ∧ q.2.2 < n
  lzd : ∀ q ∈ lz, ∀ j o, ops[j]? = some o → o.dst = some q.2.2 → j = q.1
  soft : ∀ q ∈ lz, ∀ x, (infosS fl ops)[q.1]? = some x → x.loud = false
  early : ∀ i o x, ops[i]? = some o → (infosS fl ops)[i]? = some x → (∀ q ∈ lz, q.1 ≠ i) → (∃ q ∈ lz, x.mask.testBit q.1 = false) →
    x.loud = false ∧ (∀ q ∈ lz, q.2.2 ∉ looksOf ops o) ∧ (wf i = true → ∃ r M1, (∀ (N : Prot) (w0 : World), Fine G N w0 → OpS P N w0 o (Tf i) M0 r M1) ∧ r.getD undef = vf i ∧ (quietOp o.op = true ∨ M1 = M0))
def vz (lz : Lz) (vf : Nat → Value) (i : Nat) : Value := bif lz.any fun q => Nat.beq q.1 i then .tuple #[undef] else vf i
theorem vz_in {lz : Lz} {vf : Nat → Value} {q : Nat × Nat × Nat} (h : q ∈ lz) : vz lz vf q.1 = .tuple #[undef] := by
  unfold vz
  rw [show (lz.any fun q' => Nat.beq q'.1 q.1) = true from List.any_eq_true.2 ⟨q, h, Nat.beq_refl _⟩]
  rfl
theorem vz_out {lz : Lz} {vf : Nat → Value} {i : Nat} (h : ∀ q ∈ lz, q.1 ≠ i) : vz lz vf i = vf i := by
  unfold vz
  cases hb : lz.any fun q => Nat.beq q.1 i with
  | false => rfl
  | true =>
    obtain ⟨q, h1, h2⟩ := List.any_eq_true.1 hb
    exact absurd (Nat.eq_of_beq_eq_true h2) (h q h1)
structure ZInv (P : Program) (N : Prot) (w0 : World) (n : Nat) (ops : List Oper) (lz : Lz) (L : List Info) (u0 : Nat → Value) (M0 : AMem) (vf : Nat → Value) (ρ0 : Emb) (d0 : List Deferred) (ρ : Emb) (listed : Array Bool) (a : Act) (w : World) : Prop where
  size : listed.size = ops.length
  closed : Closed ops (LD listed)
  mem : Rel N w0 ρ M0 w
  pend : ∃ Bf, Pend P N M0 ρ a.tmps w (LD listed) lz Bf
  calm : ∀ y ∈ L, y.loud = true → ¬ LD listed y.idx
  tmps : a.tmps.size = n ∧ ∀ t, ∃ v, Val (fun j => LD listed j ∧ dstOf ops j = some t) (u0 t) (vz lz vf) v ∧ SVR ρ v (a.tmps.getD t undef)
  defers : a.defers = d0
  le : ρ0.le ρ
theorem zstep_sound {n : Nat} (hn : n < bigger) {ops : List Oper} {Tf : Nat → Tr Value} {Mf : Nat → AMem} {vf : Nat → Value} {wf : Nat → Bool} {ef : Nat → Nat} {fl : List Bool} {G : Globals} (hf : Fine G N w0) {xf : Nat → Bool} (hd : LOk P G n ops xf Tf Mf vf wf ef fl)
    {lz : Lz} {M0 : AMem} (hz : ZOk P G n ops lz M0 Tf vf wf fl)
    {ρ0 : Emb} {d0 : List Deferred} {listed : Array Bool} {a : Act} {ro' : Option Nat} {k : Nat} {Q : Exit → Act → World → Prop} {K : Act → World → Prop}
    (hi : ZInv P N w0 n ops lz (infosS fl ops) (slot (Tf 0)) M0 vf ρ0 d0 ρ listed a w) (hne : ∃ q ∈ lz, ¬ LD listed q.1) {i : Nat} (hr : i ∈ Region.ready .any ops.toArray listed)
    (hK : ∀ ρ' a' w', ZInv P N w0 n ops lz (infosS fl ops) (slot (Tf 0)) M0 vf ρ0 d0 ρ' (listed.setIfInBounds i true) a' w' → K a' w') : wpOpIn (fen ro') k P ops.toArray Q i K a w := by
  obtain ⟨hun, o, ho', hall⟩ := mem_ready.1 hr
  have ho : ops[i]? = some o := by simpa using ho'
  have hil : i < ops.length := (List.getElem?_eq_some_iff.1 ho).1
  obtain ⟨x, hx, hxi, hxd, hxl, hxq⟩ := at_LS hd.len ho
  have hxm : x ∈ infosS fl ops := List.mem_of_getElem? hx
  have hni : ¬ LD listed i := by
    unfold LD
    have : i < listed.size := by rw [hi.size]; exact hil
    simp [this] at hun ⊢
    exact hun
  have hmask : ∀ j, x.mask.testBit j = true → LD listed j := mask_closedS hd.len hi.closed hd.edges i o x ho hx hall
  have hmask' : ∀ j y, (infosS fl ops)[j]? = some y → LD listed j → y.mask.testBit i = true → False := by
    intro j y hy hj hb
    have hjl : j < ops.length := by have := (List.getElem?_eq_some_iff.1 hy).1; rw [infosS_length hd.len] at this; exact this
    have hoj : ops[j]? = some ops[j] := List.getElem?_eq_getElem hjl
    exact hni (mask_closedS hd.len hi.closed hd.edges j ops[j] y hoj hy (fun e he hb => hi.closed j _ hoj hj e he hb) i hb)
  have hDset : ∀ j, LD (listed.setIfInBounds i true) j ↔ LD listed j ∨ j = i := LD_set (by rw [hi.size]; exact hil)
  obtain ⟨Bf, hpend⟩ := hi.pend
  have hrel := hi.mem
  have hloud : x.loud = false := by
    by_cases hl : ∃ q ∈ lz, q.1 = i
    · obtain ⟨q, hq, rfl⟩ := hl
      exact hz.soft q hq x hx
    · obtain ⟨q, hq, hnq⟩ := hne
      refine (hz.early i o x ho hx (fun q hq e => hl ⟨q, hq, e⟩) ⟨q, hq, ?_⟩).1
      cases hb : x.mask.testBit q.1 with
      | false => rfl
      | true => exact absurd (hmask _ hb) hnq
  -- what holds then
  have hnew : ∀ (ρ' : Emb) (u : Value) (w' : World), ρ.le ρ' → SVR ρ' (vz lz vf i) u → Rel N w0 ρ' M0 w' → (∃ Bf, Pend P N M0 ρ' (a.put o.dst u).tmps w' (LD (listed.setIfInBounds i true)) lz Bf) →
      ZInv P N w0 n ops lz (infosS fl ops) (slot (Tf 0)) M0 vf ρ0 d0 ρ' (listed.setIfInBounds i true) (a.put o.dst u) w' := by
    intro ρ' u w' hle hu hr' hp'
    refine ⟨by simp [hi.size], ?_, hr', hp', ?_, ⟨?_, ?_⟩, by rw [put_defers]; exact hi.defers, hi.le.trans hle⟩
    · intro j oj hoj hj e he hb
      rw [hDset]
      rw [hDset] at hj
      rcases hj with hj | rfl
      · exact .inl (hi.closed j oj hoj hj e he hb)
      · rw [ho] at hoj
        cases hoj
        exact .inl (hall e he hb)
    · intro y hy hyl h
      rcases (hDset _).1 h with h | h
      · exact hi.calm y hy hyl h
      · obtain ⟨oy, _, hyat⟩ := L_atS hd.len hy
        rw [h, hx] at hyat
        cases hyat
        rw [hloud] at hyl
        cases hyl
    · cases o.dst with
      | none => exact hi.tmps.1
      | some d => simp [Act.put, hi.tmps.1]
    · intro t
      obtain ⟨v, hv, hvr⟩ := hi.tmps.2 t
      have hdi : dstOf ops i = o.dst := by unfold dstOf; rw [ho]; rfl
      by_cases e : o.dst = some t
      · refine ⟨vz lz vf i, .inr ⟨i, ⟨(hDset i).2 (.inr rfl), by rw [hdi, e]⟩, ?_, rfl⟩, ?_⟩
        · rintro j ⟨h1, h2⟩
          rcases (hDset j).1 h1 with h1 | rfl
          · rcases Nat.lt_or_ge i j with h | h
            · obtain ⟨oj, hoj, hdj⟩ := dstOf_some h2
              obtain ⟨y, hy, hyi, hyd, _, _⟩ := at_LS hd.len hoj
              have hp := pairsOk_at _ hd.pairs i j x y h hx hy
              unfold pairOk at hp
              rw [sameDst_eq (hxd.trans e) (hyd.trans hdj)] at hp
              simp only [Bool.true_or, Bool.or_true, cond_true] at hp
              rw [hxi] at hp
              exact (hmask' j y hy h1 hp).elim
            · exact h
          · exact Nat.le_refl _
        · have hs := hd.st i o ho
          have hput := hs.put
          unfold aput at hput
          rw [e] at hput
          obtain ⟨hb, _⟩ := cond_some hput
          have hb : Nat.succ t ≤ n := by simpa using hb
          rw [e]
          show SVR ρ' _ ((a.tmps.setIfInBounds t u).getD t undef)
          rw [getD_set, if_pos ⟨rfl, by rw [hi.tmps.1]; omega⟩]
          exact hu
      · refine ⟨v, hv.congr fun j => ?_, ?_⟩
        · constructor
          · rintro ⟨h1, h2⟩; exact ⟨(hDset j).2 (.inl h1), h2⟩
          · rintro ⟨h1, h2⟩
            rcases (hDset j).1 h1 with h1 | rfl
            · exact ⟨h1, h2⟩
            · rw [hdi] at h2; exact absurd h2 e
        · have : (a.put o.dst u).tmps.getD t undef = a.tmps.getD t undef := by
            cases hdst : o.dst with
            | none => rfl
            | some d =>
              show (a.tmps.setIfInBounds d u).getD t undef = _
              rw [getD_set, if_neg]
              rintro ⟨rfl, _⟩
              exact e hdst
          rw [this]
          exact hvr.mono hle
  by_cases hlz : ∃ q ∈ lz, q.1 = i
  · -- a new variable
    obtain ⟨q, hq, rfl⟩ := hlz
    obtain ⟨o2, v, ho2, hop, hdst, hg, hzv, hdn⟩ := hz.lzs q hq
    rw [ho] at ho2
    cases ho2
    unfold wpOpIn
    simp only [ho']
    have hgd : Region.wanted o (yielded ops.toArray a.tmps) = true := by unfold Region.wanted; rw [hg]
    rw [if_pos hgd]
    refine lazy_run hop hzv (hK ρ _ _ (hnew ρ _ _ (Emb.le.refl _) (.inl (by rw [vz_in hq]; rfl)) (hrel.spawn _) ⟨fun j => if j = q.1 then w.heap.size else Bf j, ?_, ?_⟩))
    · intro q' hq' hl'
      by_cases e : q'.1 = q.1
      · have e2 : q'.2 = q.2 := by
          obtain ⟨o3, v3, ho3, hop3, hdst3, _⟩ := hz.lzs q' hq'
          rw [e, ho] at ho3
          cases ho3
          rw [hop] at hop3
          rw [hdst] at hdst3
          injection hop3 with h1
          injection hdst3 with h2
          exact Prod.ext h1.symm h2.symm
        rw [e2]
        simp only [if_pos e]
        refine ⟨?_, ⟨v, hzv, World.alloc_heap_new _ _⟩, fun hF => Nat.lt_irrefl _ (hrel.base _ hF), fun b o' l h1 h2 h3 h4 => Nat.ne_of_lt (hrel.used b l h4).1⟩
        rw [hdst]
        show (a.tmps.setIfInBounds q.2.2 _).getD q.2.2 undef = _
        rw [getD_set, if_pos ⟨rfl, by rw [hi.tmps.1]; exact hdn⟩]
      · have hl'' : LD listed q'.1 := by rcases (hDset _).1 hl' with h | h; exact h; exact absurd h e
        have hp := hpend.1 q' hq' hl''
        simp only [if_neg e]
        obtain ⟨v', hz', hw'⟩ := hp.obj
        have hlt' := (Array.getElem?_eq_some_iff.1 hw').1
        refine ⟨?_, ⟨v', hz', by rw [Below.heap_alloc _ _ _ hlt']; exact hw'⟩, hp.own, hp.free⟩
        rw [hdst]
        show (a.tmps.setIfInBounds q.2.2 _).getD q'.2.2 undef = _
        rw [getD_set, if_neg, hp.slot]
        rintro ⟨e2, _⟩
        obtain ⟨o3, v3, ho3, _, hdst3, _⟩ := hz.lzs q' hq'
        exact e (hz.lzd q hq q'.1 o3 ho3 (by rw [hdst3, e2]))
    · intro q1 hq1 q2 hq2 h1 h2 hne
      have old : ∀ q' ∈ lz, LD listed q'.1 → Bf q'.1 < w.heap.size := by
        intro q' hq' h'
        obtain ⟨_, _, hw'⟩ := (hpend.1 q' hq' h').obj
        exact (Array.getElem?_eq_some_iff.1 hw').1
      have lst : ∀ q' : Nat × Nat × Nat, LD (listed.setIfInBounds q.1 true) q'.1 → q'.1 ≠ q.1 → LD listed q'.1 := fun q' h' hn => by rcases (hDset q'.1).1 h' with h | h; exact h; exact absurd h hn
      by_cases e1 : q1.1 = q.1 <;> by_cases e2 : q2.1 = q.1
      · exact absurd (e1.trans e2.symm) hne
      · simp only [if_pos e1, if_neg e2]
        exact (Nat.ne_of_lt (old q2 hq2 (lst q2 h2 e2))).symm
      · simp only [if_neg e1, if_pos e2]
        exact Nat.ne_of_lt (old q1 hq1 (lst q1 h1 e1))
      · simp only [if_neg e1, if_neg e2]
        exact hpend.2 q1 hq1 q2 hq2 (lst q1 h1 e1) (lst q2 h2 e2) hne
  have hnlz : ∀ q ∈ lz, q.1 ≠ i := fun q hq e => hlz ⟨q, hq, e⟩
  obtain ⟨_, hlook, hearly⟩ := hz.early i o x ho hx hnlz (by
    obtain ⟨q, hq, hnq⟩ := hne
    refine ⟨q, hq, ?_⟩
    cases hb : x.mask.testBit q.1 with
    | false => rfl
    | true => exact absurd (hmask _ hb) hnq)
  -- what it looks at
  have hA : ∀ t ∈ looksOf ops o, VR ρ (slot (Tf i) t) (a.tmps.getD t undef) := by
    intro t ht
    obtain ⟨v, hv, hvr⟩ := hi.tmps.2 t
    have htr := traceL hn hd.st t i (by omega)
    have hnt : ∀ j, dstOf ops j = some t → ∀ q ∈ lz, q.1 ≠ j := by
      intro j hj q hq e
      obtain ⟨o3, v3, ho3, _, hdst3, _⟩ := hz.lzs q hq
      obtain ⟨oj, hoj, hdj⟩ := dstOf_some hj
      rw [e] at ho3
      rw [hoj] at ho3
      cases ho3
      rw [hdj] at hdst3
      cases hdst3
      exact hlook q hq ht
    have hv2 : Val (fun j => LD listed j ∧ dstOf ops j = some t) (slot (Tf 0) t) vf v := by
      rcases hv with ⟨h1, h2⟩ | ⟨j, h1, h2, h3⟩
      · exact .inl ⟨h1, h2⟩
      · exact .inr ⟨j, h1, h2, by rw [h3, vz_out (hnt j h1.2)]⟩
    have : Val (fun j => LD listed j ∧ dstOf ops j = some t) (slot (Tf 0) t) vf (slot (Tf i) t) := by
      refine htr.congr fun j => ?_
      constructor
      · rintro ⟨h1, h2⟩
        obtain ⟨oj, hoj, hdj⟩ := dstOf_some h2
        obtain ⟨y, hy, hyi, hyd, _, _⟩ := at_LS hd.len hoj
        have hp := pairsOk_at _ hd.pairs j i y x h1 hy hx
        unfold pairOk at hp
        rw [inLooks_mem (hyd.trans hdj) (by rw [hxl]; exact ht)] at hp
        simp only [Bool.true_or, cond_true] at hp
        rw [hyi] at hp
        exact ⟨hmask j hp, h2⟩
      · rintro ⟨h1, h2⟩
        refine ⟨?_, h2⟩
        rcases Nat.lt_trichotomy j i with h | h | h
        · exact h
        · subst h; exact absurd h1 hni
        · obtain ⟨oj, hoj, hdj⟩ := dstOf_some h2
          obtain ⟨y, hy, hyi, hyd, _, _⟩ := at_LS hd.len hoj
          have hp := pairsOk_at _ hd.pairs i j x y h hx hy
          unfold pairOk at hp
          rw [inLooks_mem (hyd.trans hdj) (by rw [hxl]; exact ht)] at hp
          simp only [Bool.true_or, Bool.or_true, cond_true] at hp
          rw [hxi] at hp
          exact (hmask' j y hy h1 hp).elim
    rw [hv2.uniq this] at hvr
    exact hvr.known ((hd.st i o ho).known t ht)
  -- what is kept from it
  let S : Nat → Prop := fun k => ∃ q ∈ lz, LD listed q.1 ∧ Bf q.1 = k
  have hSlt : ∀ k, S k → k < w.heap.size := by
    rintro k ⟨q, hq, hl, rfl⟩
    obtain ⟨_, _, hw'⟩ := (hpend.1 q hq hl).obj
    exact (Array.getElem?_eq_some_iff.1 hw').1
  have hSfree : ∀ b o l, M0.get b = some o → o.live = true → o.rom? = false → ρ b = some l → ¬ S l.blk := by
    rintro b o l h1 h2 h3 h4 ⟨q, hq, hl, e⟩
    exact (hpend.1 q hq hl).free b o l h1 h2 h3 h4 e.symm
  have hprot := hrel.protect S hSlt hSfree
  have hfine : Fine G (N.add S) w := ⟨hf.now hrel, fun p hp => .inl (hf.prot p hp)⟩
  have hlst : ∀ q ∈ lz, LD (listed.setIfInBounds i true) q.1 → LD listed q.1 := fun q hq h => by rcases (hDset q.1).1 h with h | h; exact h; exact absurd h (hnlz q hq)
  have hslot : ∀ q ∈ lz, ∀ u, (a.put o.dst u).tmps.getD q.2.2 undef = a.tmps.getD q.2.2 undef := by
    intro q hq u
    cases hdst : o.dst with
    | none => rfl
    | some d =>
      show (a.tmps.setIfInBounds d u).getD q.2.2 undef = _
      rw [getD_set, if_neg]
      rintro ⟨e, _⟩
      exact hnlz q hq (hz.lzd q hq i o ho (by rw [hdst, e])).symm
  have hkeep : ∀ ρ' w' u, Rel (N.add S) w ρ' M0 w' → ∃ Bf, Pend P N M0 ρ' (a.put o.dst u).tmps w' (LD (listed.setIfInBounds i true)) lz Bf := by
    intro ρ' w' u hr'
    refine ⟨Bf, fun q hq hl => ?_, fun q1 hq1 q2 hq2 h1 h2 hne => hpend.2 q1 hq1 q2 hq2 (hlst q1 hq1 h1) (hlst q2 hq2 h2) hne⟩
    have hp := hpend.1 q hq (hlst q hq hl)
    have hk := hr'.kept (k := Bf q.1) ⟨q, hq, hlst q hq hl, rfl⟩
    obtain ⟨v, h1, h2⟩ := hp.obj
    exact ⟨by rw [hslot q hq]; exact hp.slot, ⟨v, h1, by rw [hk.1]; exact h2⟩, hp.own, hk.2⟩
  have hs := hd.st i o ho
  unfold wpOpIn
  simp only [ho']
  rw [gd_eq' ops o hA, hs.wd]
  cases hw : wf i with
  | false =>
    rw [if_neg (by simp)]
    obtain ⟨hv, hM⟩ := hs.off hw
    exact ⟨fun _ _ => trivial, hK ρ _ w (hnew ρ undef w (Emb.le.refl _) (.inr (by rw [vz_out hnlz, hv]; exact undefR)) hrel (hkeep _ _ _ hprot))⟩
  | true =>
    rw [if_pos rfl]
    obtain ⟨r, M1, h1, h2, h3⟩ := hearly hw
    have h1 := h1 (N.add S) w hfine
    refine h1.run ρ w a ro' k _ _ hprot (aenv_R' hA hprot h1.ok h1.roms) ?_
    intro ρ' r' w' hle hv hrelS hq
    have hM1 : M1 = M0 := by
      rcases h3 with hqo | h3
      · exact (hq hqo).1
      · exact h3
    rw [hM1] at hrelS
    exact hK ρ' _ w' (hnew ρ' _ w' hle (by rw [vz_out hnlz, ← h2]; exact hv) (hrel.weaken hrelS) (hkeep _ _ _ hrelS))
theorem dreq1_at {G : Globals} {mems : List AMem} {vers : List Nat} {o : Oper} {r : LRec} : ∀ (qs : List Nat) (R : List Prop), dreq1 P G mems vers o r qs = some R → All R → ∀ q ∈ qs,
    vers[q]? = some r.ver ∨ ∃ Mq u M1 R1, mems[q]? = some Mq ∧ (∃ c, ohint P G o r.T Mq r.h = some (u, M1, c, R1) ∧ (c = false ∨ quietOp o.op = true)) ∧ All R1 ∧ u.getD undef = r.v := by
  intro qs
  induction qs with
  | nil => intro R _ _ q hq; cases hq
  | cons q0 qs ih =>
    intro R h hR q hq
    have h' : (match nth vers q0, dreq1 P G mems vers o r qs with
      | some e, some R => bif Nat.beq e r.ver then some R else match nth mems q0 with
        | some Mq => match ohint P G o r.T Mq r.h with
          | some (u, _, c, R1) => bif c && !quietOp o.op then none else some (R1 ++ (u.getD undef = r.v) :: R)
          | none => none
        | none => none
      | _, _ => none) = some R := h
    split at h'
    rotate_left
    · cases h'
    rename_i e R0 he hih
    rw [nth_eq] at he
    cases hb : Nat.beq e r.ver with
    | true =>
      rw [hb] at h'
      cases h'
      rcases List.mem_cons.1 hq with rfl | hq
      · rw [he, Nat.eq_of_beq_eq_true hb]; exact .inl rfl
      · exact ih _ hih hR q hq
    | false =>
      rw [hb] at h'
      simp only [cond_false] at h'
      split at h'
      rotate_left
      · cases h'
      rename_i Mq hM
      split at h'
      rotate_left
      · cases h'
      rename_i u M1 c R1 hh
      cases hcq : (c && !quietOp o.op) with
      | true => rw [hcq] at h'; cases h'
      | false =>
      rw [hcq] at h'
      cases h'
      rw [All.append] at hR
      rcases List.mem_cons.1 hq with rfl | hq
      · exact .inr ⟨Mq, u, M1, R1, by rw [nth_eq] at hM; exact hM, ⟨c, hh, by cases c with | false => exact .inl rfl | true => exact .inr (by cases h : quietOp o.op with | true => rfl | false => rw [h] at hcq; cases hcq)⟩, hR.1, hR.2.1⟩
      · exact ih _ hih hR.2.2 q hq
theorem dreq_at {G : Globals} {mems : List AMem} {vers : List Nat} : ∀ (pl : List (List Nat)) (ops : List Oper) (recs : List LRec) (R : List Prop), dreq P G mems vers pl ops recs = some R → All R →
    ∀ (i : Nat) (qs : List Nat) (o : Oper) (r : LRec), pl[i]? = some qs → ops[i]? = some o → recs[i]? = some r → r.wanted = true → ∃ R', dreq1 P G mems vers o r qs = some R' ∧ All R' := by
  intro pl
  induction pl with
  | nil => intro ops recs R _ _ i qs o r h; simp at h
  | cons qs pl ih =>
    intro ops recs R h hR i qs' o r h1 h2 h3 hw
    cases ops with
    | nil => simp at h2
    | cons o' ops =>
      cases recs with
      | nil => simp at h3
      | cons r' recs =>
        simp only [dreq] at h
        split at h
        rotate_left
        · cases h
        rename_i R1 R2 e1 e2
        cases h
        rw [All.append] at hR
        cases i with
        | zero =>
          simp at h1 h2 h3
          subst h1 h2 h3
          rw [hw] at e1
          exact ⟨R1, e1, hR.1⟩
        | succ i => exact ih ops recs R2 e2 hR.2 i qs' o r (by simpa using h1) (by simpa using h2) (by simpa using h3) hw
theorem zany_sound (hzp : PF P) {n : Nat} (hn : n < bigger) {ops : List Oper} {Tf : Nat → Tr Value} {Mf : Nat → AMem} {vf : Nat → Value} {wf : Nat → Bool} {ef : Nat → Nat} {fl : List Bool} {G : Globals} (hf : Fine G N w0) {xf : Nat → Bool} (hd : LOk P G n ops xf Tf Mf vf wf ef fl)
    {lz : Lz} {M0 : AMem} (hz : ZOk P G n ops lz M0 Tf vf wf fl) (had : adoptM P lz M0 = some (Mf 0)) (hnd : nodupL lz = true) (hxf : ∀ i, xf i = true → ∃ q ∈ lz, q.1 = i) (hval : ∀ k q, lz[k]? = some q → vf q.1 = .pointer (some ⟨M0.nxt + k, 0, none⟩))
    {ρ0 : Emb} {d0 : List Deferred} {ro' : Option Nat} {k : Nat} {Q : Exit → Act → World → Prop}
    (hQ : ∀ ρ' a' w', ρ0.le ρ' → Rel N w0 ρ' (Mf ops.length) w' → TJ ρ' n (Tf ops.length) a'.tmps → a'.defers = d0 → Q .normal a' w') :
    ∀ (fuel : Nat) (listed : Array Bool) (ρ : Emb) (a : Act) (w : World), ZInv P N w0 n ops lz (infosS fl ops) (slot (Tf 0)) M0 vf ρ0 d0 ρ listed a w →
      (List.range ops.length).countP (fun i => !(listed.getD i false)) ≤ fuel → wpAnyIn (fen ro') k P .any ops.toArray Q fuel listed a w := by
  intro fuel
  -- all of them are there
  have hturn : ∀ (fuel : Nat) (listed : Array Bool) (ρ : Emb) (a : Act) (w : World), ZInv P N w0 n ops lz (infosS fl ops) (slot (Tf 0)) M0 vf ρ0 d0 ρ listed a w → (∀ q ∈ lz, LD listed q.1) →
      (List.range ops.length).countP (fun i => !(listed.getD i false)) ≤ fuel → wpAnyIn (fen ro') k P .any ops.toArray Q fuel listed a w := by
    intro fuel listed ρ a w hi hall hc
    obtain ⟨Bf, hpend⟩ := hi.pend
    obtain ⟨ρ', hle, hr', hids⟩ := adoptM_sound hzp.zeros lz ρ M0 (Mf 0) had hnd hi.mem (fun q hq => hpend.1 q hq (hall q hq)) (fun q hq q' hq' => hpend.2 q hq q' hq' (hall q hq) (hall q' hq'))
    refine lany_sound hn hf hd (ρ0 := ρ0) (d0 := d0) (ro' := ro') (k := k) (Q := Q) hQ fuel listed ρ' a w ?_ hc
    refine ⟨hi.size, hi.closed, ⟨0, Nat.zero_le _, .inl rfl, fun y hy hyl => ⟨fun h => absurd h (hi.calm y hy hyl), fun h => by omega⟩, hr'⟩, ⟨hi.tmps.1, fun t => ?_⟩, hi.defers, hi.le.trans hle, fun i hx => ?_⟩
    · obtain ⟨v, hv, hvr⟩ := hi.tmps.2 t
      rcases hv with ⟨h1, h2⟩ | ⟨j, h1, h2, h3⟩
      · exact ⟨v, .inl ⟨h1, h2⟩, hvr.mono hle⟩
      · by_cases hj : ∃ q ∈ lz, q.1 = j
        · obtain ⟨q, hq, rfl⟩ := hj
          obtain ⟨m, hm⟩ := List.getElem?_of_mem hq
          refine ⟨vf q.1, .inr ⟨q.1, h1, h2, rfl⟩, .inr ?_⟩
          rw [hval m q hm]
          obtain ⟨o3, v3, ho3, _, hdst3, _⟩ := hz.lzs q hq
          have ht : q.2.2 = t := by
            have : dstOf ops q.1 = some q.2.2 := by unfold dstOf; rw [ho3]; exact hdst3
            rw [this] at h1
            exact Option.some.inj h1.2
          rw [← ht, (hpend.1 q hq (hall q hq)).slot]
          exact VR.ptr _ 0 _ (hids m q hm)
        · refine ⟨vf j, .inr ⟨j, h1, h2, rfl⟩, ?_⟩
          rw [← vz_out (lz := lz) (vf := vf) (fun q hq e => hj ⟨q, hq, e⟩), ← h3]
          exact hvr.mono hle
    · obtain ⟨q, hq, rfl⟩ := hxf i hx
      exact hall q hq
  have hleast : ∀ (listed : Array Bool), (∃ i, i < ops.length ∧ ¬ LD listed i) → ∃ i, i < ops.length ∧ ¬ LD listed i ∧ ∀ j, j < i → LD listed j := by
    rintro listed ⟨i, h1, h2⟩
    induction i using Nat.strongRecOn with
    | _ i ih =>
      by_cases h3 : ∀ j, j < i → LD listed j
      · exact ⟨i, h1, h2, h3⟩
      · have : ∃ j, j < i ∧ ¬ LD listed j := by
          apply Classical.byContradiction
          intro h
          refine h3 fun j hj => ?_
          apply Classical.byContradiction
          intro h4
          exact h ⟨j, hj, h4⟩
        obtain ⟨j, h4, h5⟩ := this
        exact ih j h4 (by omega) h5
  induction fuel with
  | zero =>
    intro listed ρ a w hi hc
    refine hturn 0 listed ρ a w hi (fun q hq => ?_) hc
    obtain ⟨o3, v3, ho3, _⟩ := hz.lzs q hq
    have h0 := List.countP_eq_zero.1 (Nat.le_zero.1 hc) q.1 (List.mem_range.2 (List.getElem?_eq_some_iff.1 ho3).1)
    unfold LD
    simpa using h0
  | succ fuel ih =>
    intro listed ρ a w hi hc
    by_cases hall : ∀ q ∈ lz, LD listed q.1
    · exact hturn _ listed ρ a w hi hall hc
    have hne : ∃ q ∈ lz, ¬ LD listed q.1 := by
      apply Classical.byContradiction
      intro h
      refine hall fun q hq => ?_
      apply Classical.byContradiction
      intro h2
      exact h ⟨q, hq, h2⟩
    obtain ⟨m, hml, hmn, hmj⟩ := hleast listed (by
      obtain ⟨q, hq, hq2⟩ := hne
      obtain ⟨o3, v3, ho3, _⟩ := hz.lzs q hq
      exact ⟨q.1, (List.getElem?_eq_some_iff.1 ho3).1, hq2⟩)
    have hmr : m ∈ Region.ready .any ops.toArray listed := by
      have ho : ops[m]? = some ops[m] := List.getElem?_eq_getElem hml
      refine mem_ready.2 ⟨by
        have : m < listed.size := by rw [hi.size]; exact hml
        unfold LD at hmn
        simp [this] at hmn ⊢
        exact hmn, ops[m], by simp [hml], fun e he hb => by
          have := edgesOk_at ops 0 hd.edges m _ ho e he hb
          exact hmj e.on (by omega)⟩
    refine ⟨fun hr => (by rw [hr] at hmr; cases hmr), fun i hr => ?_⟩
    obtain ⟨hun, o, ho', hedge⟩ := mem_ready.1 hr
    have hil : i < ops.length := by have := (Array.getElem?_eq_some_iff.1 ho').1; simpa using this
    refine zstep_sound hn hf hd hz hi hne hr fun ρ' a' w' hi' => ih _ ρ' a' w' hi' ?_
    have hsz : i < listed.size := by rw [hi.size]; exact hil
    refine Nat.le_of_lt_succ (Nat.lt_of_lt_of_le (countP_lt (a := i) _ ?_ (List.mem_range.2 hil) ?_ ?_) hc)
    · intro y hy
      simp only [Bool.not_eq_true'] at hy ⊢
      cases h : listed.getD y false with
      | false => rfl
      | true => rw [getD_set_true h] at hy; cases hy
    · simp [hsz] at hun ⊢; exact hun
    · simp [hsz]
/-! ### What is checked -/
def lzStat : List Oper → Nat → Lz
  | o :: ops, i => match o.op, o.guard, o.dst with
    | .alloc t, none, some d => (i, t, d) :: lzStat ops (i + 1)
    | _, _, _ => lzStat ops (i + 1)
  | [], _ => []
theorem lzStat_at : ∀ (ops : List Oper) (i : Nat) (q : Nat × Nat × Nat), q ∈ lzStat ops i → ∃ j o, q.1 = i + j ∧ ops[j]? = some o ∧ o.op = .alloc q.2.1 ∧ o.guard = none ∧ o.dst = some q.2.2 := by
  intro ops
  induction ops with
  | nil => intro i q h; cases h
  | cons o ops ih =>
    intro i q h
    have tl : q ∈ lzStat ops (i + 1) → ∃ j o', q.1 = i + j ∧ (o :: ops)[j]? = some o' ∧ o'.op = .alloc q.2.1 ∧ o'.guard = none ∧ o'.dst = some q.2.2 := by
      intro h
      obtain ⟨j, o', h1, h2, h3⟩ := ih (i + 1) q h
      exact ⟨j + 1, o', by omega, by simpa using h2, h3⟩
    unfold lzStat at h
    split at h
    · rename_i t d h1 h2 h3
      rcases List.mem_cons.1 h with rfl | h
      · exact ⟨0, o, rfl, rfl, h1, h2, h3⟩
      · exact tl h
    · exact tl h
def dstUniq : List Oper → Nat → Nat → Nat → Bool
  | o :: ops, i, q, d => (bif sameDst o.dst (some d) then Nat.beq i q else true) && dstUniq ops (i + 1) q d
  | [], _, _, _ => true
theorem dstUniq_at : ∀ (ops : List Oper) (i q d : Nat), dstUniq ops i q d = true → ∀ j o, ops[j]? = some o → o.dst = some d → i + j = q := by
  intro ops
  induction ops with
  | nil => intro i q d _ j o h; simp at h
  | cons o ops ih =>
    intro i q d h j o' ho hd
    simp only [dstUniq, Bool.and_eq_true] at h
    cases j with
    | zero =>
      simp at ho
      subst ho
      rw [sameDst_eq hd rfl] at h
      have := Nat.eq_of_beq_eq_true h.1
      omega
    | succ j =>
      have := ih (i + 1) q d h.2 j o' (by simpa using ho) hd
      omega
def isPtrTo (b : Nat) (v : Value) : Bool :=
  match v with
  | .pointer (some ⟨b', o, none⟩) => Nat.beq b' b && Nat.beq o 0
  | _ => false
theorem isPtrTo_eq {b : Nat} {v : Value} (h : isPtrTo b v = true) : v = .pointer (some ⟨b, 0, none⟩) := by
  unfold isPtrTo at h
  split at h
  · rename_i b' o
    rw [Bool.and_eq_true] at h
    rw [Nat.eq_of_beq_eq_true h.1, Nat.eq_of_beq_eq_true h.2]
  · cases h
/-- Each of them has been laid beforehand, in this order. -/
noncomputable def lzVals (rs : List LRec) : Lz → Nat → Bool
  | q :: l, b => (match nth rs q.1 with
    | some r => isPtrTo b r.v
    | none => false) && lzVals rs l (b + 1)
  | [], _ => true
theorem lzVals_at {rs : List LRec} : ∀ (l : Lz) (b : Nat), lzVals rs l b = true → ∀ (k : Nat) (q : Nat × Nat × Nat), l[k]? = some q → ∃ r, rs[q.1]? = some r ∧ r.v = .pointer (some ⟨b + k, 0, none⟩) := by
  intro l
  induction l with
  | nil => intro b _ k q h; simp at h
  | cons q0 l ih =>
    intro b h k q hk
    unfold lzVals at h
    rw [Bool.and_eq_true] at h
    cases k with
    | zero =>
      simp at hk
      subst hk
      have h1 := h.1
      split at h1
      · rename_i r hr
        rw [nth_eq] at hr
        exact ⟨r, hr, isPtrTo_eq h1⟩
      · cases h1
    | succ k =>
      obtain ⟨r, h1, h2⟩ := ih (b + 1) h.2 k q (by simpa using hk)
      exact ⟨r, h1, by rw [h2, show b + 1 + k = b + (k + 1) by omega]⟩
def inLz (lz : Lz) (i : Nat) : Bool := lz.any fun q => Nat.beq q.1 i
/-- Just they were laid beforehand. -/
def lzFit (lz : Lz) : List LRec → Nat → Bool
  | r :: rs, i => (bif isLz r.h.h then inLz lz i else true) && lzFit lz rs (i + 1)
  | [], _ => true
theorem lzFit_at {lz : Lz} : ∀ (rs : List LRec) (i : Nat), lzFit lz rs i = true → ∀ j r, rs[j]? = some r → isLz r.h.h = true → ∃ q ∈ lz, q.1 = i + j := by
  intro rs
  induction rs with
  | nil => intro i _ j r h; simp at h
  | cons r0 rs ih =>
    intro i h j r hj hl
    unfold lzFit at h
    rw [Bool.and_eq_true] at h
    cases j with
    | zero =>
      simp at hj
      subst hj
      have h1 := h.1
      rw [hl, cond_true] at h1
      obtain ⟨q, h2, h3⟩ := List.any_eq_true.1 h1
      exact ⟨q, h2, Nat.eq_of_beq_eq_true h3⟩
    | succ j =>
      obtain ⟨q, h1, h2⟩ := ih (i + 1) h.2 j r (by simpa using hj) hl
      exact ⟨q, h1, by omega⟩
noncomputable def lzChk (P : Program) (n : Nat) (ops : List Oper) (L : List Info) (lz : Lz) : Bool :=
  nodupL lz && lz.all fun q => Nat.ble (Nat.succ q.2.2) n && (dstUniq ops 0 q.1 q.2.2 && ((zeroOf P q.2.1).isSome && match nth L q.1 with
    | some x => !x.loud
    | none => false))
def early (lz : Lz) (x : Info) : Bool := !(inLz lz x.idx) && lz.any fun q => !x.mask.testBit q.1
/-- What may run before all of them are there comes to the same. -/
noncomputable def zreq (P : Program) (G : Globals) (lz : Lz) (M0 : AMem) : List Info → List Oper → List LRec → Option (List Prop)
  | x :: L, o :: ops, r :: rs => match (bif early lz x then (bif !x.loud && lz.all (fun q => !(x.looks.any (Nat.beq q.2.2))) then (bif r.wanted then (match ohint P G o r.T M0 r.h with
      | some (u, _, c, R1) => bif c && !quietOp o.op then none else some (R1 ++ [u.getD undef = r.v])
      | none => none) else some []) else none) else some []), zreq P G lz M0 L ops rs with
    | some R, some R2 => some (R ++ R2)
    | _, _ => none
  | [], _, _ => some []
  | _, _, _ => none
theorem zreq_at {G : Globals} {lz : Lz} {M0 : AMem} : ∀ (L : List Info) (ops : List Oper) (rs : List LRec) (R : List Prop), zreq P G lz M0 L ops rs = some R → All R → ∀ (i : Nat) (x : Info) (o : Oper) (r : LRec), L[i]? = some x → ops[i]? = some o → rs[i]? = some r → early lz x = true →
    x.loud = false ∧ (∀ q ∈ lz, q.2.2 ∉ x.looks) ∧ (r.wanted = true → ∃ u M1 c R1, ohint P G o r.T M0 r.h = some (u, M1, c, R1) ∧ (c = false ∨ quietOp o.op = true) ∧ All R1 ∧ u.getD undef = r.v) := by
  intro L
  induction L with
  | nil => intro ops rs R _ _ i x o r h; simp at h
  | cons x0 L ih =>
    intro ops rs R h hR i x o r h1 h2 h3 he
    cases ops with
    | nil => simp at h2
    | cons o0 ops =>
      cases rs with
      | nil => simp at h3
      | cons r0 rs =>
        simp only [zreq] at h
        split at h
        rotate_left
        · cases h
        rename_i R1 R2 e1 e2
        cases h
        rw [All.append] at hR
        cases i with
        | succ i => exact ih ops rs R2 e2 hR.2 i x o r (by simpa using h1) (by simpa using h2) (by simpa using h3) he
        | zero =>
          simp at h1 h2 h3
          subst h1 h2 h3
          rw [he, cond_true] at e1
          obtain ⟨hc, e1⟩ := cond_some e1
          rw [Bool.and_eq_true, Bool.not_eq_true'] at hc
          refine ⟨hc.1, fun q hq hin => ?_, fun hw => ?_⟩
          · have h4 := List.all_eq_true.1 hc.2 q hq
            have h5 : (x0.looks.any (Nat.beq q.2.2)) = true := List.any_eq_true.2 ⟨q.2.2, hin, Nat.beq_refl _⟩
            rw [h5] at h4
            cases h4
          · rw [hw, cond_true] at e1
            split at e1
            rotate_left
            · cases e1
            rename_i u M1 c R3 hh
            cases hcq : (c && !quietOp o0.op) with
            | true => rw [hcq] at e1; cases e1
            | false =>
              rw [hcq] at e1
              cases e1
              rw [All.append] at hR
              exact ⟨u, M1, c, R3, hh, by cases c with | false => exact .inl rfl | true => exact .inr (by cases h : quietOp o0.op with | true => rfl | false => rw [h] at hcq; cases hcq), hR.1.1, hR.1.2.1⟩
noncomputable def oregionO (P : Program) (G : Globals) (E : HEx) (n : Nat) (ops : List Oper) (hs : List Hint) (T : Tr Value) (M : AMem) : Option (Tr Value × AMem × List Hint × List Prop) :=
  match orun P G E n ops ops hs T M 0 with
  | some (recs, T', M', ver, hs', R) => match staticOf ops (infosS (flagsL (recs.map (·.ver) ++ [ver]) ops) ops) with
    | some pl => match dreq P G (recs.map (·.M) ++ [M']) (recs.map (·.ver) ++ [ver]) pl ops recs with
      | some R2 => bif recs.all (fun r => !isLz r.h.h) then some (T', M', hs', R ++ R2) else none
      | none => none
    | none => none
  | none => none
noncomputable def oregionZ (P : Program) (G : Globals) (E : HEx) (n : Nat) (ops : List Oper) (hs : List Hint) (T : Tr Value) (M0 : AMem) : Option (Tr Value × AMem × List Hint × List Prop) :=
  match adoptM P (lzStat ops 0) M0 with
  | some M => match orun P G E n ops ops hs T M 0 with
    | some (recs, T', M', ver, hs', R) => match staticOf ops (infosS (flagsL (recs.map (·.ver) ++ [ver]) ops) ops) with
      | some pl => match dreq P G (recs.map (·.M) ++ [M']) (recs.map (·.ver) ++ [ver]) pl ops recs with
        | some R2 => bif lzFit (lzStat ops 0) recs 0 && (lzVals recs (lzStat ops 0) M0.nxt && lzChk P n ops (infosS (flagsL (recs.map (·.ver) ++ [ver]) ops) ops) (lzStat ops 0)) then (match zreq P G (lzStat ops 0) M0 (infosS (flagsL (recs.map (·.ver) ++ [ver]) ops) ops) ops recs with
          | some R3 => some (T', M', hs', (R ++ R2) ++ R3)
          | none => none) else none
        | none => none
      | none => none
    | none => none
  | none => none
/-! ### A new variable whose place in the order is free, where memory changes beside it: it is tracked from a later time on -/
def addE : List Oper → Nat → List Nat → List Oper
  | o :: l, 0, es => { o with after := o.after ++ (es.map fun e => (⟨e, .data⟩ : Edge)).toArray } :: l
  | o :: l, z + 1, es => o :: addE l z es
  | [], _, _ => []
theorem addE_at (es : List Nat) : ∀ (ops : List Oper) (z i : Nat), (addE ops z es)[i]? = (ops[i]?).map fun o => if i = z then { o with after := o.after ++ (es.map fun e => (⟨e, .data⟩ : Edge)).toArray } else o := by
  intro ops
  induction ops with
  | nil => intro z i; cases z <;> simp [addE]
  | cons o l ih =>
    intro z i
    cases z with
    | zero =>
      cases i with
      | zero => simp [addE]
      | succ i => simp [addE]
    | succ z =>
      cases i with
      | zero => simp [addE]
      | succ i => simp only [addE, List.getElem?_cons_succ, ih]; congr 1; funext o; simp
theorem addE_length (es : List Nat) : ∀ (ops : List Oper) (z : Nat), (addE ops z es).length = ops.length := by
  intro ops
  induction ops with
  | nil => intro z; cases z <;> rfl
  | cons o l ih => intro z; cases z <;> simp [addE, ih]
theorem addE_dst (es : List Nat) (ops : List Oper) (z j : Nat) : dstOf (addE ops z es) j = dstOf ops j := by
  unfold dstOf
  rw [addE_at]
  cases ops[j]? with
  | none => rfl
  | some o => simp only [Option.map_some, Option.bind_some]; split <;> rfl
theorem addE_yielded (es : List Nat) (ops : List Oper) (z : Nat) (tm : Array Value) : yielded (addE ops z es).toArray tm = yielded ops.toArray tm := by
  funext j
  unfold yielded
  have : ((addE ops z es).toArray[j]?).bind (·.dst) = (ops.toArray[j]?).bind (·.dst) := by
    simp only [List.getElem?_toArray, addE_at]
    cases ops[j]? with
    | none => rfl
    | some o => simp only [Option.map_some, Option.bind_some]; split <;> rfl
  rw [this]
theorem wpOpIn_addE {F : Fence} {m : Nat} {ops : List Oper} {z : Nat} {es : List Nat} {Q : Exit → Act → World → Prop} {i : Nat} {K : Act → World → Prop} {a : Act} {w : World} (h : wpOpIn F m P (addE ops z es).toArray Q i K a w) : wpOpIn F m P ops.toArray Q i K a w := by
  unfold wpOpIn at h ⊢
  rw [addE_yielded] at h
  simp only [List.getElem?_toArray, addE_at] at h ⊢
  cases ho : ops[i]? with
  | none => rw [ho] at h; exact h
  | some o =>
    rw [ho] at h
    simp only [Option.map_some] at h
    by_cases e : i = z
    · rw [if_pos e] at h; exact h
    · rw [if_neg e] at h; exact h
def lateGo (z : Nat) (es : List Nat) : List Oper → List Info → Bool
  | o :: ops, x :: L => (bif o.after.toList.any (fun e => Region.binds .any e && Nat.beq e.on z) then es.all (fun e => x.mask.testBit e) else true) && lateGo z es ops L
  | _, _ => true
theorem lateGo_at {z : Nat} {es : List Nat} : ∀ (ops : List Oper) (L : List Info), lateGo z es ops L = true → ∀ (i : Nat) (o : Oper) (x : Info), ops[i]? = some o → L[i]? = some x → (∃ e ∈ o.after, Region.binds .any e = true ∧ e.on = z) → ∀ e ∈ es, x.mask.testBit e = true := by
  intro ops
  induction ops with
  | nil => intro L _ i o x h; simp at h
  | cons o0 ops ih =>
    intro L h i o x ho hx hex
    cases L with
    | nil => simp at hx
    | cons x0 L =>
      simp only [lateGo, Bool.and_eq_true] at h
      cases i with
      | succ i => exact ih L h.2 i o x (by simpa using ho) (by simpa using hx) hex
      | zero =>
        simp at ho hx
        subst ho hx
        obtain ⟨e, h1, h2, h3⟩ := hex
        have : (o0.after.toList.any fun e => Region.binds .any e && Nat.beq e.on z) = true := List.any_eq_true.2 ⟨e, by simpa using h1, by rw [h2, h3, Nat.beq_refl]; rfl⟩
        rw [this, cond_true] at h
        exact fun e he => List.all_eq_true.1 h.1 e he
theorem LInv.congr {ops : List Oper} {n : Nat} {xf : Nat → Bool} {L : List Info} {u0 : Nat → Value} {Mf : Nat → AMem} {vf : Nat → Value} {ρ0 : Emb} {d0 : List Deferred} {listed listed' : Array Bool} {a : Act} (h : LInv N w0 n ops xf L u0 Mf vf ρ0 d0 ρ listed a w) (hs : listed'.size = listed.size) (hl : ∀ i, LD listed' i ↔ LD listed i) :
    LInv N w0 n ops xf L u0 Mf vf ρ0 d0 ρ listed' a w := by
  obtain ⟨h1, h2, ⟨p, k1, k2, k3, k4⟩, h4, h5, h6, h7⟩ := h
  refine ⟨hs.trans h1, fun i o ho hi e he hb => (hl _).2 (h2 i o ho ((hl i).1 hi) e he hb), ⟨p, k1, k2, fun y hy hyl => (hl _).trans (k3 y hy hyl), k4⟩, ⟨h4.1, fun t => ?_⟩, h5, h6, fun i hi => (hl i).2 (h7 i hi)⟩
  obtain ⟨v, k5, k6⟩ := h4.2 t
  exact ⟨v, k5.congr fun j => ⟨fun h => ⟨(hl j).2 h.1, h.2⟩, fun h => ⟨(hl j).1 h.1, h.2⟩⟩, k6⟩
theorem LInv.weaken {ops : List Oper} {n : Nat} {xf : Nat → Bool} {L : List Info} {u0 : Nat → Value} {Mf : Nat → AMem} {vf : Nat → Value} {ρ0 : Emb} {d0 : List Deferred} {listed : Array Bool} {a : Act} {S : Nat → Prop} {ρB : Emb} {MB : AMem} {wB : World} (hB : Rel N w0 ρB MB wB) (h : LInv (N.add S) wB n ops xf L u0 Mf vf ρ0 d0 ρ listed a w) :
    LInv N w0 n ops xf L u0 Mf vf ρ0 d0 ρ listed a w := by
  obtain ⟨h1, h2, ⟨p, k1, k2, k3, k4⟩, h4, h5, h6, h7⟩ := h
  exact ⟨h1, h2, ⟨p, k1, k2, k3, hB.weaken k4⟩, h4, h5, h6, h7⟩
/-- Where the new variable is, while nobody tracks it. -/
def Wait (P : Program) (N : Prot) (w0 : World) (n : Nat) (ops : List Oper) (xf : Nat → Bool) (L : List Info) (u0 : Nat → Value) (Mf : Nat → AMem) (vf : Nat → Value) (ρ0 : Emb) (d0 : List Deferred) (z t d : Nat) (es : List Nat) (listed : Array Bool) (a : Act) (w : World) : Prop :=
  LD listed z ∧ (∃ e ∈ es, ¬ LD listed e) ∧ ∃ ρB MB wB B ρ v, Rel N w0 ρB MB wB ∧ ¬ N.F B ∧ zeroOf P t = some v ∧ wB.heap[B]? = some (.cells v.cells t (0, 0)) ∧ a.tmps.getD d undef = .pointer (some ⟨B, 0, none⟩) ∧
    LInv (N.add fun k => k = B) wB n ops xf L u0 Mf vf ρ0 d0 ρ (listed.setIfInBounds z false) a w
structure NInv (P : Program) (N : Prot) (w0 : World) (n : Nat) (ops : List Oper) (xf : Nat → Bool) (L : List Info) (u0 : Nat → Value) (Mf : Nat → AMem) (vf : Nat → Value) (ρ0 : Emb) (d0 : List Deferred) (z t d : Nat) (es : List Nat) (listed : Array Bool) (a : Act) (w : World) : Prop where
  size : listed.size = ops.length
  closed : Closed ops (LD listed)
  st : (∃ ρ, LInv N w0 n (addE ops z es) xf L u0 Mf vf ρ0 d0 ρ listed a w) ∨ Wait P N w0 n (addE ops z es) xf L u0 Mf vf ρ0 d0 z t d es listed a w
theorem LD_clear {listed : Array Bool} {i : Nat} (j : Nat) : LD (listed.setIfInBounds i false) j ↔ LD listed j ∧ j ≠ i := by
  unfold LD
  by_cases e : i = j
  · subst e
    simp only [ne_eq, not_true, and_false, iff_false]
    by_cases hi : i < listed.size
    · simp [hi]
    · simp [Array.getD_eq_getD_getElem?]
  · rw [Array.getD_eq_getD_getElem?, Array.getElem?_setIfInBounds, if_neg e, ← Array.getD_eq_getD_getElem?]
    exact ⟨fun h => ⟨h, fun h2 => e h2.symm⟩, fun h => h.1⟩
/-- What is asked of a region with such a variable. -/
structure NOk (P : Program) (n : Nat) (ops : List Oper) (z t d : Nat) (es : List Nat) (L : List Info) (Tf : Nat → Tr Value) : Prop where
  op : ∃ o, ops[z]? = some o ∧ o.op = .alloc t ∧ o.guard = none ∧ o.dst = some d
  uniq : ∀ j o, ops[j]? = some o → o.dst = some d → j = z
  slot : d < n
  late : lateGo z es ops (infos ops ops 0 []) = true
  edges : edgesOk ops 0 = true
  loud : ∀ x, L[z]? = some x → x.loud = true
  junk : isJunk (Sim.slot (Tf 0) d) = true
theorem nstep_sound {n : Nat} (hn : n < bigger) {ops : List Oper} {z t d : Nat} {es : List Nat} {Tf : Nat → Tr Value} {Mf : Nat → AMem} {vf : Nat → Value} {wf : Nat → Bool} {ef : Nat → Nat} {fl : List Bool} {G : Globals} (hzp : PF P) (hf : Fine G N w0) {xf : Nat → Bool} (hxf : ∀ i, xf i = false) (hd : LOk P G n (addE ops z es) xf Tf Mf vf wf ef fl)
    (hw : wf z = true) (hz : NOk P n ops z t d es (infosS fl (addE ops z es)) Tf)
    {ρ0 : Emb} {d0 : List Deferred} {listed : Array Bool} {a : Act} {ro' : Option Nat} {k : Nat} {Q : Exit → Act → World → Prop} {K : Act → World → Prop}
    (hi : NInv P N w0 n ops xf (infosS fl (addE ops z es)) (slot (Tf 0)) Mf vf ρ0 d0 z t d es listed a w) {i : Nat} (hr : i ∈ Region.ready .any ops.toArray listed)
    (hK : ∀ a' w', NInv P N w0 n ops xf (infosS fl (addE ops z es)) (slot (Tf 0)) Mf vf ρ0 d0 z t d es (listed.setIfInBounds i true) a' w' → K a' w') : wpOpIn (fen ro') k P ops.toArray Q i K a w := by
  obtain ⟨hun, o, ho', hall⟩ := mem_ready.1 hr
  have ho : ops[i]? = some o := by simpa using ho'
  have hil : i < ops.length := (List.getElem?_eq_some_iff.1 ho).1
  have hni : ¬ LD listed i := by
    unfold LD
    have : i < listed.size := by rw [hi.size]; exact hil
    simp [this] at hun ⊢
    exact hun
  have hDset : ∀ j, LD (listed.setIfInBounds i true) j ↔ LD listed j ∨ j = i := LD_set (by rw [hi.size]; exact hil)
  have hcl : Closed ops (LD (listed.setIfInBounds i true)) := by
    intro j oj hoj hj e he hb
    rw [hDset]
    rcases (hDset j).1 hj with hj | rfl
    · exact .inl (hi.closed j oj hoj hj e he hb)
    · rw [ho] at hoj
      cases hoj
      exact .inl (hall e he hb)
  have hsz : (listed.setIfInBounds i true).size = ops.length := by simp [hi.size]
  obtain ⟨oz, hoz, hop, hg, hdst⟩ := hz.op
  have hzl : z < ops.length := (List.getElem?_eq_some_iff.1 hoz).1
  have hat : ∀ j oj, ops[j]? = some oj → j ≠ z → (addE ops z es)[j]? = some oj := fun j oj h1 h2 => by rw [addE_at, h1]; simp only [Option.map_some, if_neg h2]
  have hatz : (addE ops z es)[z]? = some { oz with after := oz.after ++ (es.map fun e => (⟨e, .data⟩ : Edge)).toArray } := by rw [addE_at, hoz]; simp only [Option.map_some, if_pos]
  rcases hi.st with ⟨ρ, hL⟩ | ⟨hlz, hpend, ρB, MB, wB, B, ρ, v, hB, hnF, hzv, hwB, hslot, hL⟩
  · by_cases hiz : i = z
    · subst hiz
      obtain rfl : oz = o := by rw [hoz] at ho; exact Option.some.inj ho
      by_cases hes : ∀ e ∈ es, LD listed e
      · -- it is taken as it comes
        have hr2 : i ∈ Region.ready .any (addE ops i es).toArray listed := by
          refine mem_ready.2 ⟨hun, _, by simpa using hatz, fun e he hb => ?_⟩
          rcases Array.mem_append.1 he with he | he
          · exact hall e he hb
          · obtain ⟨e0, h1, rfl⟩ := List.mem_map.1 (List.mem_toArray.1 he)
            exact hes e0 h1
        exact wpOpIn_addE (lstep_sound hn hf hd hL hr2 fun ρ' _ _ w' _ hL' => hK _ _ ⟨hsz, hcl, .inl ⟨ρ', hL'⟩⟩)
      · -- it waits
        have hes' : ∃ e ∈ es, ¬ LD listed e := by
          apply Classical.byContradiction
          intro h
          exact hes fun e he => by
            apply Classical.byContradiction
            intro h2
            exact h ⟨e, he, h2⟩
        have hin : ∀ e ∈ es, e ≠ i := by
          intro e he h
          have := edgesOk_at _ 0 hd.edges i _ hatz ⟨e, .data⟩ (Array.mem_append.2 (.inr (List.mem_toArray.2 (List.mem_map.2 ⟨e, he, rfl⟩)))) rfl
          simp only at this
          omega
        obtain ⟨p, hpm, hpc, hpl, hrel⟩ := hL.mem
        obtain ⟨v, hzv, _⟩ := (hd.st i _ hatz).al t hop hw (hxf i)
        unfold wpOpIn
        simp only [ho']
        have hgd : Region.wanted oz (yielded ops.toArray a.tmps) = true := by unfold Region.wanted; rw [hg]
        rw [if_pos hgd]
        have hBn : ¬ N.F w.heap.size := fun h => Nat.lt_irrefl _ (hrel.base _ h)
        refine lazy_run hop hzv (hK _ _ ⟨hsz, hcl, .inr ⟨(hDset i).2 (.inr rfl), ?_, ρ, Mf p, _, w.heap.size, ρ, v, hrel.spawn _, hBn, hzv, World.alloc_heap_new _ _, ?_, ?_⟩⟩)
        · obtain ⟨e, h1, h2⟩ := hes'
          exact ⟨e, h1, fun h => by rcases (hDset e).1 h with h | h; exact h2 h; exact hin e h1 h⟩
        · rw [hdst]
          show (a.tmps.setIfInBounds d _).getD d undef = _
          rw [getD_set, if_pos ⟨rfl, by rw [hL.tmps.1]; exact hz.slot⟩]
        · refine LInv.congr (listed := listed) ?_ (by simp) (fun j => ?_)
          rotate_left
          · rw [LD_clear, hDset]
            constructor
            · rintro ⟨h | h, h2⟩
              · exact h
              · exact absurd h h2
            · intro h; exact ⟨.inl h, fun e => hni (e ▸ h)⟩
          refine ⟨hL.size, hL.closed, ⟨p, hpm, hpc, hpl, (hrel.spawn _).protect _ ?_ ?_⟩, ⟨?_, fun t' => ?_⟩, by rw [put_defers]; exact hL.defers, hL.le, hL.exl⟩
          · rintro k rfl
            simp
          · intro b o' l h1 h2 h3 h4 e
            exact Nat.ne_of_lt (hrel.used b l h4).1 e
          · rw [hdst]; simp [Act.put, hL.tmps.1]
          · obtain ⟨v2, hv, hvr⟩ := hL.tmps.2 t'
            refine ⟨v2, hv, ?_⟩
            rw [hdst]
            show SVR ρ v2 ((a.tmps.setIfInBounds d _).getD t' undef)
            rw [getD_set]
            by_cases e : t' = d
            · left
              rcases hv with ⟨_, h2⟩ | ⟨j, ⟨h1, h2⟩, _⟩
              · rw [h2, e]; exact hz.junk
              · rw [addE_dst, e] at h2
                obtain ⟨oj, h3, h4⟩ := dstOf_some h2
                exact absurd (hz.uniq j oj h3 h4 ▸ h1) hni
            · rw [if_neg (fun h => e h.1)]; exact hvr
    · have hr2 : i ∈ Region.ready .any (addE ops z es).toArray listed := mem_ready.2 ⟨hun, o, by simpa using hat i o ho hiz, hall⟩
      exact wpOpIn_addE (lstep_sound hn hf hd hL hr2 fun ρ' _ _ w' _ hL' => hK _ _ ⟨hsz, hcl, .inl ⟨ρ', hL'⟩⟩)
  · have hiz : i ≠ z := fun e => hni (e ▸ hlz)
    obtain ⟨x0, hx0, _⟩ := at_L ho
    have hnz : ∀ e ∈ o.after, Region.binds .any e = true → e.on ≠ z := by
      intro e he hb hez
      have hm := lateGo_at _ _ hz.late i o x0 ho hx0 ⟨e, he, hb, hez⟩
      obtain ⟨e1, h1, h2⟩ := hpend
      exact h2 (mask_closed hi.closed hz.edges i o x0 ho hx0 hall e1 (hm e1 h1))
    have hun2 : (listed.setIfInBounds z false).getD i true = false := by
      rw [Array.getD_eq_getD_getElem?, Array.getElem?_setIfInBounds, if_neg (fun e => hiz e.symm), ← Array.getD_eq_getD_getElem?]
      exact hun
    have hr2 : i ∈ Region.ready .any (addE ops z es).toArray (listed.setIfInBounds z false) :=
      mem_ready.2 ⟨hun2, o, by simpa using hat i o ho hiz, fun e he hb => (LD_clear e.on).2 ⟨hall e he hb, hnz e he hb⟩⟩
    have hfB : Fine G (N.add fun k => k = B) wB := ⟨hf.now hB, fun p hp => .inl (hf.prot p hp)⟩
    have hDz : ∀ j, LD ((listed.setIfInBounds z false).setIfInBounds i true) j ↔ (LD listed j ∧ j ≠ z) ∨ j = i := fun j => by
      rw [LD_set (by simp [hi.size, hil]) j, LD_clear]
    refine wpOpIn_addE (lstep_sound hn hfB hd hL hr2 fun ρ' o2 u w' ho2 hL' => hK _ _ ⟨hsz, hcl, ?_⟩)
    have e2 : o2 = o := by rw [hat i o ho hiz] at ho2; exact (Option.some.inj ho2).symm
    subst e2
    have hod : o2.dst ≠ some d := fun h => hiz (hz.uniq i o2 ho h)
    have hslot2 : (a.put o2.dst u).tmps.getD d undef = .pointer (some ⟨B, 0, none⟩) := by
      rw [← hslot]
      cases h : o2.dst with
      | none => rfl
      | some d2 =>
        show (a.tmps.setIfInBounds d2 u).getD d undef = _
        rw [getD_set, if_neg]
        rintro ⟨e, _⟩
        exact hod (by rw [h, e])
    by_cases hes : ∀ e ∈ es, LD (listed.setIfInBounds i true) e
    · left
      have hL2 := hL'.weaken hB
      have hone : ∀ j, j ≠ z → LD (listed.setIfInBounds i true) j → LD ((listed.setIfInBounds z false).setIfInBounds i true) j := fun j h1 h2 => by
        rw [hDz]
        rcases (hDset j).1 h2 with h | h
        · exact .inl ⟨h, h1⟩
        · exact .inr h
      have hr3 : z ∈ Region.ready .any (addE ops z es).toArray ((listed.setIfInBounds z false).setIfInBounds i true) := by
        refine mem_ready.2 ⟨?_, _, by simpa using hatz, fun e he hb => ?_⟩
        · have hzs : z < listed.size := by rw [hi.size]; exact hzl
          rw [Array.getD_eq_getD_getElem?, Array.getElem?_setIfInBounds, if_neg hiz, Array.getElem?_setIfInBounds, if_pos rfl, if_pos hzs]
          rfl
        · have hlt := edgesOk_at _ 0 hd.edges z _ hatz e he hb
          refine hone e.on (by omega) ?_
          rcases Array.mem_append.1 he with he | he
          · exact (hDset _).2 (.inl (hi.closed z oz hoz hlz e he hb))
          · obtain ⟨e0, h1, rfl⟩ := List.mem_map.1 (List.mem_toArray.1 he)
            exact hes e0 h1
      obtain ⟨o3, x, ho3, hx, hrz, hmk⟩ := lstep_pre hn hd hL2 hr3
      obtain ⟨_, x', _, hx', hrz', _⟩ := lstep_pre hn hd hL' hr3
      rw [hx] at hx'
      cases hx'
      rw [hatz] at ho3
      cases ho3
      have hlo := hz.loud x hx
      have hti : tight (infosS fl (addE ops z es)) x = true := by rcases hd.loud x (List.mem_of_getElem? hx) with h | h; exact h; rw [hlo] at h; cases h
      have hkept := (hrz' hti).kept (k := B) rfl
      obtain ⟨v0, k1, k2, k3, k4⟩ := (hd.st z _ hatz).al t hop hw (hxf z)
      rw [hzv] at k1
      cases k1
      have hself : ∀ x ∈ v.cells.toList, Self x := by
        unfold zeroOf at hzv
        split at hzv
        · rename_i i hi; exact hzp.zeros _ i v hi hzv
        · cases hzv
      have hwB2 : w'.heap[B]? = some (.cells v.cells t (0, 0)) := hkept.1.trans hwB
      obtain ⟨hle2, hr4⟩ := (hrz hti).adopt (o := .row v.cells.toList 0) (B := B) k4 (Array.getElem?_eq_some_iff.1 hwB2).1 hnF hkept.2 rfl (fun _ => ⟨v.cells, t, hwB2, fun j x hj => ⟨x, by rw [Nat.zero_add]; simpa using hj, hself x (List.mem_of_getElem? hj) _⟩, rfl, fun h => absurd rfl h⟩)
      have hfin := hmk _ (.pointer (some ⟨B, 0, none⟩)) w' hle2 (.inr (by rw [k2]; exact VR.ptr _ 0 _ (ext_self _ _ _))) hti hlo (by rw [k3]; exact hr4)
      have hsame : (a.put o2.dst u).put oz.dst (.pointer (some ⟨B, 0, none⟩)) = a.put o2.dst u := by
        rw [hdst]
        generalize hb : a.put o2.dst u = b
        rw [hb] at hslot2
        show ({ b with tmps := b.tmps.setIfInBounds d _ } : Act) = b
        cases b
        congr 1
        apply Array.ext
        · simp
        · intro j h1 h2
          rw [Array.getElem_setIfInBounds]
          split
          · rename_i e
            subst e
            have h3 : _ = Value.pointer (some ⟨B, 0, none⟩) := hslot2
            rw [← h3]
            simp only [Array.getD_eq_getD_getElem?]
            rw [Array.getElem?_eq_getElem h2]
            rfl
          · rfl
      rw [hsame] at hfin
      refine ⟨_, hfin.congr (by simp) (fun j => ?_)⟩
      have hz2 : LD (((listed.setIfInBounds z false).setIfInBounds i true).setIfInBounds z true) j ↔ _ := LD_set (by simp only [Array.size_setIfInBounds]; rw [hi.size]; exact hzl) j
      rw [hz2, hDz, hDset]
      constructor
      · rintro (h | h)
        · by_cases e : j = z
          · exact .inr e
          · exact .inl (.inl ⟨h, e⟩)
        · exact .inl (.inr h)
      · rintro ((h | h) | h)
        · exact .inl h.1
        · exact .inr h
        · exact .inl (h ▸ hlz)
    · right
      refine ⟨(hDset z).2 (.inl hlz), ?_, ρB, MB, wB, B, ρ', v, hB, hnF, hzv, hwB, hslot2, hL'.congr (by simp) (fun j => ?_)⟩
      · apply Classical.byContradiction
        intro h
        refine hes fun e he => ?_
        apply Classical.byContradiction
        intro h2
        exact h ⟨e, he, h2⟩
      · rw [LD_clear, hDz, hDset]
        constructor
        · rintro ⟨h | h, h2⟩
          · exact .inl ⟨h, h2⟩
          · exact .inr h
        · rintro (h | h)
          · exact ⟨.inl h.1, h.2⟩
          · exact ⟨.inr h, fun e => hiz (h ▸ e)⟩
theorem nany_sound {n : Nat} (hn : n < bigger) {ops : List Oper} {z t d : Nat} {es : List Nat} {Tf : Nat → Tr Value} {Mf : Nat → AMem} {vf : Nat → Value} {wf : Nat → Bool} {ef : Nat → Nat} {fl : List Bool} {G : Globals} (hzp : PF P) (hf : Fine G N w0) {xf : Nat → Bool} (hxf : ∀ i, xf i = false) (hd : LOk P G n (addE ops z es) xf Tf Mf vf wf ef fl)
    (hw : wf z = true) (hz : NOk P n ops z t d es (infosS fl (addE ops z es)) Tf)
    {ρ0 : Emb} {d0 : List Deferred} {ro' : Option Nat} {k : Nat} {Q : Exit → Act → World → Prop}
    (hQ : ∀ ρ' a' w', ρ0.le ρ' → Rel N w0 ρ' (Mf ops.length) w' → TJ ρ' n (Tf ops.length) a'.tmps → a'.defers = d0 → Q .normal a' w') :
    ∀ (fuel : Nat) (listed : Array Bool) (a : Act) (w : World), NInv P N w0 n ops xf (infosS fl (addE ops z es)) (slot (Tf 0)) Mf vf ρ0 d0 z t d es listed a w →
      (List.range ops.length).countP (fun i => !(listed.getD i false)) ≤ fuel → wpAnyIn (fen ro') k P .any ops.toArray Q fuel listed a w := by
  intro fuel
  have hin : ∀ e ∈ es, e < ops.length := by
    intro e he
    obtain ⟨oz, hoz, _⟩ := hz.op
    have hatz : (addE ops z es)[z]? = some { oz with after := oz.after ++ (es.map fun e => (⟨e, .data⟩ : Edge)).toArray } := by rw [addE_at, hoz]; simp only [Option.map_some, if_pos]
    have h1 := edgesOk_at _ 0 hd.edges z _ hatz ⟨e, .data⟩ (Array.mem_append.2 (.inr (List.mem_toArray.2 (List.mem_map.2 ⟨e, he, rfl⟩)))) rfl
    have h2 := (List.getElem?_eq_some_iff.1 hoz).1
    simp only at h1
    omega
  have hend : ∀ (listed : Array Bool) (a : Act) (w : World), NInv P N w0 n ops xf (infosS fl (addE ops z es)) (slot (Tf 0)) Mf vf ρ0 d0 z t d es listed a w → (∀ i, i < ops.length → LD listed i) → Q .normal a w := by
    intro listed a w hi hall
    rcases hi.st with ⟨ρ, hL⟩ | ⟨_, ⟨e, h1, h2⟩, _⟩
    rotate_left
    · exact absurd (hall e (hin e h1)) h2
    have hlen : (addE ops z es).length = ops.length := addE_length _ _ _
    obtain ⟨p, hpm, hpc, hpl, hrel⟩ := hL.mem
    have hM : Mf p = Mf ops.length := by
      rw [← hlen]
      refine stretchL' hd.soft hpm (Nat.le_refl _) fun j hj hq => ?_
      obtain ⟨y, hy, hyi, _, _, hyq⟩ := at_LS hd.len (List.getElem?_eq_getElem hj : (addE ops z es)[j]? = some (addE ops z es)[j])
      have hyl : y.loud = true := hyq.2 ⟨hd.hard j hj hq, hq⟩
      have h1 := hpl y (List.mem_of_getElem? hy) hyl
      rw [hyi] at h1
      exact ⟨fun _ => hj, fun _ => h1.1 (hall j (by rw [← hlen]; exact hj))⟩
    refine hQ ρ a w hL.le (by rw [← hM]; exact hrel) ⟨hL.tmps.1, hn, fun t => ?_⟩ hL.defers
    obtain ⟨v, hv, hvr⟩ := hL.tmps.2 t
    have htr := traceL hn hd.st t ops.length (by rw [hlen]; exact Nat.le_refl _)
    have : Val (fun j => LD listed j ∧ dstOf (addE ops z es) j = some t) (slot (Tf 0) t) vf (slot (Tf ops.length) t) := by
      refine htr.congr fun j => ?_
      constructor
      · rintro ⟨h1, h2⟩; exact ⟨hall j h1, h2⟩
      · rintro ⟨h1, h2⟩
        obtain ⟨oj, hoj, _⟩ := dstOf_some h2
        exact ⟨by rw [← hlen]; exact (List.getElem?_eq_some_iff.1 hoj).1, h2⟩
    rw [hv.uniq this] at hvr
    exact hvr
  have hnone : ∀ (listed : Array Bool), listed.size = ops.length → Region.ready .any ops.toArray listed = [] → ∀ i, i < ops.length → LD listed i := by
    intro listed hsz hr i
    induction i using Nat.strongRecOn with
    | _ i ih =>
      intro hi
      cases hl : listed.getD i false with
      | true => exact hl
      | false =>
        have ho : ops[i]? = some ops[i] := List.getElem?_eq_getElem hi
        have : i ∈ Region.ready .any ops.toArray listed := mem_ready.2 ⟨by
          have : i < listed.size := by rw [hsz]; exact hi
          simp [this] at hl ⊢
          exact hl, ops[i], by simp [hi], fun e he hb => by
            have := edgesOk_at ops 0 hz.edges i _ ho e he hb
            exact ih e.on (by omega) (by omega)⟩
        rw [hr] at this
        cases this
  induction fuel with
  | zero =>
    intro listed a w hi hc
    have hall : ∀ i, i < ops.length → LD listed i := by
      intro i hil
      have h0 := List.countP_eq_zero.1 (Nat.le_zero.1 hc) i (List.mem_range.2 hil)
      unfold LD
      simpa using h0
    refine ⟨?_, hend listed a w hi hall⟩
    rw [List.eq_nil_iff_forall_not_mem]
    intro j hj
    obtain ⟨hun, o, ho', _⟩ := mem_ready.1 hj
    have hjl : j < ops.length := by have := (Array.getElem?_eq_some_iff.1 ho').1; simpa using this
    have h1 := hall j hjl
    unfold LD at h1
    have : j < listed.size := by rw [hi.size]; exact hjl
    simp [this] at hun h1
    rw [hun] at h1
    cases h1
  | succ fuel ih =>
    intro listed a w hi hc
    refine ⟨fun hr => hend listed a w hi (hnone listed hi.size hr), fun i hr => ?_⟩
    refine nstep_sound hn hzp hf hxf hd hw hz hi hr fun a' w' hi' => ih _ a' w' hi' ?_
    obtain ⟨hun, o, ho', _⟩ := mem_ready.1 hr
    have hil : i < ops.length := by have := (Array.getElem?_eq_some_iff.1 ho').1; simpa using this
    have hsz : i < listed.size := by rw [hi.size]; exact hil
    refine Nat.le_of_lt_succ (Nat.lt_of_lt_of_le (countP_lt (a := i) _ ?_ (List.mem_range.2 hil) ?_ ?_) hc)
    · intro y hy
      simp only [Bool.not_eq_true'] at hy ⊢
      cases h : listed.getD y false with
      | false => rfl
      | true => rw [getD_set_true h] at hy; cases hy
    · simp [hsz] at hun ⊢; exact hun
    · simp [hsz]
/-- What is asked, as it is checked. -/
noncomputable def lateChk (n : Nat) (ops : List Oper) (z d : Nat) (es : List Nat) (L : List Info) : Bool :=
  Nat.ble (Nat.succ d) n && (dstUniq ops 0 z d && (lateGo z es ops (infos ops ops 0 []) && (edgesOk ops 0 && match nth L z with
    | some x => x.loud
    | none => true)))
noncomputable def oregionL (P : Program) (G : Globals) (E : HEx) (n : Nat) (ops : List Oper) (z : Nat) (es : List Nat) (hs : List Hint) (T : Tr Value) (M : AMem) : Option (Tr Value × AMem × List Hint × List Prop) :=
  match nth ops z with
  | some o => match o.op, o.guard, o.dst with
    | .alloc _, none, some d => match orun P G E n (addE ops z es) (addE ops z es) hs (Tr.set (.tuple #[undef]) T (Nat.succ d)) M 0 with
      | some (recs, T', M', ver, hs', R) => match staticOf (addE ops z es) (infosS (flagsL (recs.map (·.ver) ++ [ver]) (addE ops z es)) (addE ops z es)) with
        | some pl => match dreq P G (recs.map (·.M) ++ [M']) (recs.map (·.ver) ++ [ver]) pl (addE ops z es) recs with
          | some R2 => bif recs.all (fun r => !isLz r.h.h) && lateChk n ops z d es (infosS (flagsL (recs.map (·.ver) ++ [ver]) (addE ops z es)) (addE ops z es)) then some (T', M', hs', R ++ R2) else none
          | none => none
        | none => none
      | none => none
    | _, _, _ => none
  | none => none
noncomputable def oregionD (P : Program) (G : Globals) (E : HEx) (n : Nat) (ops : List Oper) (hs : List Hint) (T : Tr Value) (M : AMem) : Option (Tr Value × AMem × List Hint × List Prop) :=
  match hs with
  | [] => oregionO P G E n ops [] T M
  | h :: hs => match h.h with
    | .lzs => oregionZ P G E n ops hs T M
    | .ed z es => oregionL P G E n ops z es hs T M
    | _ => oregionO P G E n ops (h :: hs) T M
noncomputable def oregion (P : Program) (G : Globals) (E : HEx) (n : Nat) (ops : List Oper) (hs : List Hint) (T : Tr Value) (M : AMem) : Option (Tr Value × AMem × List Hint × List Prop) :=
  match orun P G E n ops ops hs T M 0 with
  | some (rs, T', M', _, hs', R) => bif rs.all (fun r => !isLz r.h.h) then some (T', M', hs', R) else none
  | none => none
theorem oregion_sound {G : Globals} (hz : PF P) {E : HEx} (hE : HSound P G E) (hf : Fine G N w0) {n : Nat} {ops : Array Oper} {id : Nat} {ro' : Option Nat} {k : Nat} {Q : Exit → Act → World → Prop} {T T' : Tr Value} {M' : AMem} {a : Act} {hs hs' : List Hint} {R : List Prop}
    (h : oregion P G E n ops.toList hs T M = some (T', M', hs', R)) (hR : All R) (hr : Rel N w0 ρ M w) (ht : TJ ρ n T a.tmps)
    (hQ : ∀ ρ' a' w', ρ.le ρ' → Rel N w0 ρ' M' w' → TJ ρ' n T' a'.tmps → a'.defers = a.defers → Q .normal a' w') : (Code.region id ops false).wpIn (fen ro') k P Q a w := by
  unfold oregion at h
  split at h
  rotate_left
  · cases h
  rename_i rs T1 M1 ver hs1 R1 hrun
  obtain ⟨hnz, h⟩ := cond_some h
  cases h
  refine wpIn_region ?_
  have := orun_sound hz hE hf (ro' := ro') (k := k) ops.toList 0 hs T M 0 rs R ρ a w (fun j => by rw [Nat.zero_add]) hrun hR hnz hr ht hQ
  simpa using this
theorem region_ok {G : Globals} (hz : PF P) {E : HEx} (hE : HSound P G E) (hf : Fine G N w0) {n : Nat} {ops : List Oper} {hs hs' : List Hint} {T T' : Tr Value} {M M' : AMem} {ver : Nat} {recs : List LRec} {R R2 : List Prop} {pl : List (List Nat)}
    (hdr : orun P G E n ops ops hs T M 0 = some (recs, T', M', ver, hs', R)) (hR : All R) (hpl : staticOf ops (infosS (flagsL (recs.map (·.ver) ++ [ver]) ops) ops) = some pl) (hck : dreq P G (recs.map (·.M) ++ [M']) (recs.map (·.ver) ++ [ver]) pl ops recs = some R2) (hR2 : All R2) :
    ∃ (Tf : Nat → Tr Value) (Mf : Nat → AMem) (vf : Nat → Value) (wf : Nat → Bool) (ef : Nat → Nat) (gf : Nat → Hint), Tf 0 = T ∧ Mf 0 = M ∧ Tf ops.length = T' ∧ Mf ops.length = M' ∧ recs.length = ops.length ∧ (∀ (i : Nat) (o : Oper), ops[i]? = some o → recs[i]? = some (⟨Tf i, Mf i, vf i, wf i, ef i, gf i⟩ : LRec)) ∧
      LOk P G n ops (fun i => decide (i < ops.length) && isLz (gf i).h) Tf Mf vf wf ef (flagsL (recs.map (·.ver) ++ [ver]) ops) := by
  unfold staticOf at hpl
  obtain ⟨hst, hpl⟩ := cond_some hpl
  simp only [Bool.and_eq_true] at hst
  obtain ⟨hpairs, hedges, hloud⟩ := hst
  obtain ⟨Tf, Mf, vf, wf, ef, gf, h1, h2, h3, h4, h4e, h5, h6⟩ := orun_spec hz hE hf _ _ _ _ _ _ _ hdr hR
  have hst6 : ∀ i o, ops[i]? = some o → LStep P G n ops o (Tf i) (Tf (i + 1)) (Mf i) (Mf (i + 1)) (vf i) (wf i) (ef i) (ef (i + 1)) (decide (i < ops.length) && isLz (gf i).h) := fun i o ho => by
    rw [show decide (i < ops.length) = true from decide_eq_true (List.getElem?_eq_some_iff.1 ho).1, Bool.true_and]
    exact (h6 i o ho).2
  have hvlen : (recs.map (·.ver) ++ [ver]).length = ops.length + 1 := by simp [h5]
  obtain ⟨hfl, hflat⟩ := flagsL_at ops _ hvlen
  have hverat : ∀ q, q ≤ ops.length → (recs.map (·.ver) ++ [ver])[q]? = some (ef q) := by
    intro q hq
    rcases Nat.lt_or_ge q ops.length with hlt | hge
    · obtain ⟨h9, _⟩ := h6 q _ (List.getElem?_eq_getElem hlt)
      rw [List.getElem?_append_left (by simp; omega), List.getElem?_map, h9]
      rfl
    · have : q = ops.length := by omega
      rw [List.getElem?_append_right (by simp; omega)]
      rw [List.length_map, h5, this, Nat.sub_self, h4e]
      rfl
  have hloud'' : ∀ x ∈ infosS (flagsL (recs.map (·.ver) ++ [ver]) ops) ops, tight (infosS (flagsL (recs.map (·.ver) ++ [ver]) ops) ops) x = true ∨ x.loud = false := by
    intro x hx
    have := List.all_eq_true.1 hloud x hx
    rw [Bool.or_eq_true, Bool.not_eq_true'] at this
    exact this
  have hd : LOk P G n ops (fun i => decide (i < ops.length) && isLz (gf i).h) Tf Mf vf wf ef (flagsL (recs.map (·.ver) ++ [ver]) ops) := by
    refine ⟨hfl, ?_, ?_, hpairs, hedges, ?_, hst6, ?_⟩
    · intro i hi hne
      have ho := List.getElem?_eq_getElem hi
      obtain ⟨v, w2, k1, k2, k3⟩ := hflat i _ ho
      have hs := hst6 i _ ho
      rw [hverat i (by omega)] at k1
      rw [hverat (i + 1) (by omega)] at k2
      cases k1
      cases k2
      cases hqo : quietOp ops[i].op with
      | true =>
        cases hw : wf i with
        | false => exact (hs.off hw).2
        | true =>
          cases hx : (decide (i < ops.length) && isLz (gf i).h) with
          | true => exact (hs.ex hx).2
          | false => obtain ⟨_, _, _, _, h⟩ := hs.on hw hx; rw [h, hqo]; rfl
      | false =>
        rcases hs.ver with ⟨_, h⟩ | h
        · exact h
        · exfalso
          rw [k3, hqo] at hne
          have : Nat.beq (ef i) (ef (i + 1)) = false := by
            cases hb : Nat.beq (ef i) (ef (i + 1)) with
            | false => rfl
            | true => have := Nat.eq_of_beq_eq_true hb; omega
          rw [this] at hne
          exact hne rfl
    · intro i hi hf
      obtain ⟨v, w2, k1, k2, k3⟩ := hflat i _ (List.getElem?_eq_getElem hi)
      rw [k3] at hf
      intro hq
      rw [hq] at hf
      cases hf
    · exact hloud''
    · intro i o x hxf ho hx hw ht q hq hfe
      have hloud' : ∀ (x : Info), (infosS (flagsL (recs.map (·.ver) ++ [ver]) ops) ops)[i]? = some x → tight (infosS (flagsL (recs.map (·.ver) ++ [ver]) ops) ops) x = true ∨ x.loud = false := fun x hx => hloud'' x (List.mem_of_getElem? hx)
      obtain ⟨h7, h8⟩ := h6 i o ho
      have hil : i < ops.length := (List.getElem?_eq_some_iff.1 ho).1
      have hpi : pl[i]? = some (planOf (infosS (flagsL (recs.map (·.ver) ++ [ver]) ops) ops) ops.length x) := by
        rw [← Option.some.inj hpl, List.getElem?_map, hx]
        rfl
      have hqm : q ∈ planOf (infosS (flagsL (recs.map (·.ver) ++ [ver]) ops) ops) ops.length x := by
        unfold planOf
        rw [ht]
        exact List.mem_filter.2 ⟨List.mem_range.2 (by omega), hfe⟩
      obtain ⟨R', hd1, hR'⟩ := dreq_at pl ops recs R2 hck hR2 i _ o _ hpi ho h7 hw
      have hver : (recs.map (·.ver) ++ [ver])[q]? = some (ef q) := by
        rcases Nat.lt_or_ge q ops.length with hlt | hge
        · obtain ⟨h9, _⟩ := h6 q _ (List.getElem?_eq_getElem hlt)
          rw [List.getElem?_append_left (by simp; omega), List.getElem?_map, h9]
          rfl
        · have : q = ops.length := by omega
          rw [List.getElem?_append_right (by simp; omega)]
          rw [List.length_map, h5, this, Nat.sub_self, h4e]
          rfl
      have hmem : (recs.map (·.M) ++ [M'])[q]? = some (Mf q) := by
        rcases Nat.lt_or_ge q ops.length with hlt | hge
        · obtain ⟨h9, _⟩ := h6 q _ (List.getElem?_eq_getElem hlt)
          rw [List.getElem?_append_left (by simp; omega), List.getElem?_map, h9]
          rfl
        · have : q = ops.length := by omega
          rw [List.getElem?_append_right (by simp; omega)]
          rw [List.length_map, h5, this, Nat.sub_self, h4]
          rfl
      rcases dreq1_at _ R' hd1 hR' q hqm with hve | ⟨Mq, u, M2, R3, k1, ⟨c, k2, k5⟩, k3, k4⟩
      · rw [hver] at hve
        have hee : ef q = ef i := Option.some.inj hve
        have hMq : Mf q = Mf i := by
          rcases Nat.le_total i q with hiq | hqi
          · exact (verL hst6 i q hiq hq).2 hee.symm
          · exact ((verL hst6 q i hqi (by omega)).2 hee).symm
        have hxf' : isLz (gf i).h = false := by
          have hxf : (decide (i < ops.length) && isLz (gf i).h) = false := hxf
          rw [show decide (i < ops.length) = true from decide_eq_true hil, Bool.true_and] at hxf
          exact hxf
        obtain ⟨r, M3, g1, g2, g3⟩ := h8.on hw hxf'
        refine ⟨r, M3, by rw [hMq]; exact g1, g2.symm, ?_⟩
        cases hqo : quietOp o.op with
        | true => exact .inl rfl
        | false =>
          rw [hqo] at g3
          right
          rw [hMq]
          have hnl : x.loud = false := by rcases hloud' x hx with h | h; rw [h] at ht; cases ht; exact h
          obtain ⟨v, w2, e1, e2, e3⟩ := hflat i _ ho
          rw [hverat i (by omega)] at e1
          rw [hverat (i + 1) (by omega)] at e2
          cases e1
          cases e2
          obtain ⟨x2, f1, _, _, _, f5⟩ := at_LS hfl ho
          rw [hx] at f1
          cases f1
          have g3 : Mf (i + 1) = M3 := g3
          rw [← g3]
          rcases h8.ver with ⟨_, h⟩ | h
          · exact h
          · exfalso
            have hb : Nat.beq (ef i) (ef (i + 1)) = false := by
              cases hb : Nat.beq (ef i) (ef (i + 1)) with
              | false => rfl
              | true => have := Nat.eq_of_beq_eq_true hb; omega
            rw [f5.2 ⟨by rw [hqo]; simp, by rw [e3, hqo, hb]; rfl⟩] at hnl
            cases hnl
      · rw [hmem] at k1
        cases k1
        have j2 := (ohint_sound hz hf k2 k3).2
        refine ⟨u, M2, fun N w0 hf => (ohint_sound hz hf k2 k3).1, k4, ?_⟩
        rcases k5 with k5 | k5
        · exact j2 k5
        · exact .inl k5
  exact ⟨Tf, Mf, vf, wf, ef, gf, h1, h2, h3, h4, h5, fun i o ho => (h6 i o ho).1, hd⟩
theorem not_listed {m : Nat} (i : Nat) : ¬ LD (Array.replicate m false) i := by
  intro hl
  unfold LD at hl
  simp [Array.getD_eq_getD_getElem?, Array.getElem?_replicate] at hl
  split at hl <;> simp at hl
theorem oregionO_sound {G : Globals} (hz : PF P) {E : HEx} (hE : HSound P G E) (hm : P.follows .mixedOrders = true) (hf : Fine G N w0) {n : Nat} {ops : Array Oper} {id : Nat} {ro' : Option Nat} {k : Nat} {Q : Exit → Act → World → Prop} {T T' : Tr Value} {M' : AMem} {a : Act}
    {hs hs' : List Hint} {R : List Prop}
    (h : oregionO P G E n ops.toList hs T M = some (T', M', hs', R)) (hR : All R) (hr : Rel N w0 ρ M w) (ht : TJ ρ n T a.tmps)
    (hQ : ∀ ρ' a' w', ρ.le ρ' → Rel N w0 ρ' M' w' → TJ ρ' n T' a'.tmps → a'.defers = a.defers → Q .normal a' w') : (Code.region id ops true).wpIn (fen ro') k P Q a w := by
  refine wpIn_region_any hm ?_
  unfold oregionO at h
  split at h
  rotate_left
  · cases h
  rename_i recs T1 M1 ver hs1 R1 hdr
  split at h
  rotate_left
  · cases h
  rename_i pl hpl
  split at h
  rotate_left
  · cases h
  rename_i R2 hck
  obtain ⟨hnz, h⟩ := cond_some h
  cases h
  rw [All.append] at hR
  obtain ⟨Tf, Mf, vf, wf, ef, gf, h1, h2, h3, h4, h5, h6, hd⟩ := region_ok hz hE hf hdr hR.1 hpl hck hR.2
  have := lany_sound ht.2.1 hf hd (ρ0 := ρ) (d0 := a.defers) (ro' := ro') (k := k) (Q := Q) (by rw [h3, h4]; exact hQ) ops.size (Array.replicate ops.size false) ρ a w.drew ?_ ?_
  · simpa using this
  · refine ⟨by simp, fun i o _ hl => absurd hl (not_listed i), ⟨0, by omega, .inl rfl, fun y _ _ => ⟨fun hl => absurd hl (not_listed _), fun h => by omega⟩, by rw [h2]; exact hr.drew⟩, ⟨ht.1, fun t => ⟨slot (Tf 0) t, .inl ⟨fun i hl => absurd hl.1 (not_listed i), rfl⟩, by rw [h1]; exact ht.2.2 t⟩⟩, rfl, Emb.le.refl _, fun i hx => ?_⟩
    have hx : (decide (i < ops.toList.length) && isLz (gf i).h) = true := hx
    rw [Bool.and_eq_true] at hx
    have hil := of_decide_eq_true hx.1
    have h9 := h6 i _ (List.getElem?_eq_getElem hil)
    have := List.all_eq_true.1 hnz _ (List.mem_of_getElem? h9)
    rw [hx.2] at this
    cases this
  · refine Nat.le_trans List.countP_le_length ?_
    simp
theorem oregionZ_sound {G : Globals} (hz : PF P) {E : HEx} (hE : HSound P G E) (hm : P.follows .mixedOrders = true) (hf : Fine G N w0) {n : Nat} {ops : Array Oper} {id : Nat} {ro' : Option Nat} {k : Nat} {Q : Exit → Act → World → Prop} {T T' : Tr Value} {M' : AMem} {a : Act}
    {hs hs' : List Hint} {R : List Prop}
    (h : oregionZ P G E n ops.toList hs T M = some (T', M', hs', R)) (hR : All R) (hr : Rel N w0 ρ M w) (ht : TJ ρ n T a.tmps)
    (hQ : ∀ ρ' a' w', ρ.le ρ' → Rel N w0 ρ' M' w' → TJ ρ' n T' a'.tmps → a'.defers = a.defers → Q .normal a' w') : (Code.region id ops true).wpIn (fen ro') k P Q a w := by
  refine wpIn_region_any hm ?_
  unfold oregionZ at h
  split at h
  rotate_left
  · cases h
  rename_i M1 had
  split at h
  rotate_left
  · cases h
  rename_i recs T1 M2 ver hs1 R1 hdr
  split at h
  rotate_left
  · cases h
  rename_i pl hpl
  split at h
  rotate_left
  · cases h
  rename_i R2 hck
  obtain ⟨hc, h⟩ := cond_some h
  split at h
  rotate_left
  · cases h
  rename_i R3 hzr
  cases h
  rw [All.append, All.append] at hR
  simp only [lzChk, Bool.and_eq_true] at hc
  obtain ⟨hfit, hvals, hnd, hchk⟩ := hc
  obtain ⟨Tf, Mf, vf, wf, ef, gf, h1, h2, h3, h4, h5, h6, hd⟩ := region_ok hz hE hf hdr hR.1.1 hpl hck hR.1.2
  have hval : ∀ k q, (lzStat ops.toList 0)[k]? = some q → vf q.1 = .pointer (some ⟨M.nxt + k, 0, none⟩) := by
    intro k q hk
    obtain ⟨r, e1, e2⟩ := lzVals_at _ _ hvals k q hk
    obtain ⟨j, o, f1, f2, _⟩ := lzStat_at _ _ q (List.mem_of_getElem? hk)
    rw [Nat.zero_add] at f1
    rw [← f1] at f2
    have := h6 q.1 o f2
    rw [e1] at this
    cases this
    exact e2
  have hzok : ZOk P G n ops.toList (lzStat ops.toList 0) M Tf vf wf (flagsL (recs.map (·.ver) ++ [ver]) ops.toList) := by
    refine ⟨fun q hq => ?_, fun q hq j o ho hdst => ?_, fun q hq x hx => ?_, fun i o x ho hx hnl hex => ?_⟩
    · obtain ⟨j, o, f1, f2, f3, f4, f5⟩ := lzStat_at _ _ q hq
      rw [Nat.zero_add] at f1
      rw [← f1] at f2
      have hc := List.all_eq_true.1 hchk q hq
      simp only [Bool.and_eq_true] at hc
      cases hzv : zeroOf P q.2.1 with
      | none => rw [hzv] at hc; cases hc.2.2.1
      | some v =>
        refine ⟨o, v, f2, f3, f5, f4, rfl, ?_⟩
        have : q.2.2 + 1 ≤ n := by simpa using hc.1
        omega
    · have hc := List.all_eq_true.1 hchk q hq
      simp only [Bool.and_eq_true] at hc
      have := dstUniq_at _ 0 q.1 q.2.2 hc.2.1 j o ho hdst
      omega
    · have hc := List.all_eq_true.1 hchk q hq
      simp only [Bool.and_eq_true] at hc
      have hc := hc.2.2.2
      rw [nth_eq, hx] at hc
      simpa using hc
    · have he : early (lzStat ops.toList 0) x = true := by
        obtain ⟨x2, hx2, hxi, _⟩ := at_LS hd.len ho
        rw [hx] at hx2
        cases hx2
        unfold early inLz
        rw [hxi, Bool.and_eq_true]
        refine ⟨?_, ?_⟩
        · cases hb : (lzStat ops.toList 0).any fun q => Nat.beq q.1 i with
          | false => rfl
          | true =>
            obtain ⟨q, g1, g2⟩ := List.any_eq_true.1 hb
            exact absurd (Nat.eq_of_beq_eq_true g2) (hnl q g1)
        · obtain ⟨q, g1, g2⟩ := hex
          exact List.any_eq_true.2 ⟨q, g1, by rw [g2]; rfl⟩
      obtain ⟨g1, g2, g3⟩ := zreq_at _ _ _ R3 hzr hR.2 i x o _ hx ho (h6 i o ho) he
      obtain ⟨x2, hx2, _, _, hxl, _⟩ := at_LS hd.len ho
      rw [hx] at hx2
      cases hx2
      refine ⟨g1, fun q hq => by rw [← hxl]; exact g2 q hq, fun hw => ?_⟩
      obtain ⟨u, M3, c, R4, k1, k2, k3, k4⟩ := g3 hw
      refine ⟨u, M3, fun N w0 hf => (ohint_sound hz hf k1 k3).1, k4, ?_⟩
      rcases k2 with k2 | k2
      · exact (ohint_sound hz hf k1 k3).2 k2
      · exact .inl k2
  have := zany_sound hz ht.2.1 hf hd hzok (by rw [h2]; exact had) hnd (fun i hx => ?_) hval (ρ0 := ρ) (d0 := a.defers) (ro' := ro') (k := k) (Q := Q) (by rw [h3, h4]; exact hQ) ops.size (Array.replicate ops.size false) ρ a w.drew ?_ ?_
  · simpa using this
  · have hx : (decide (i < ops.toList.length) && isLz (gf i).h) = true := hx
    rw [Bool.and_eq_true] at hx
    obtain ⟨q, g1, g2⟩ := lzFit_at _ 0 hfit i _ (h6 i _ (List.getElem?_eq_getElem (of_decide_eq_true hx.1))) hx.2
    exact ⟨q, g1, by omega⟩
  · exact ⟨by simp, fun i o _ hl => absurd hl (not_listed i), hr.drew, ⟨fun _ => 0, fun q _ hl => absurd hl (not_listed _), fun q _ q' _ hl => absurd hl (not_listed _)⟩, fun y _ _ => not_listed _, ⟨ht.1, fun t => ⟨slot (Tf 0) t, .inl ⟨fun i hl => absurd hl.1 (not_listed i), rfl⟩, by rw [h1]; exact ht.2.2 t⟩⟩, rfl, Emb.le.refl _⟩
  · refine Nat.le_trans List.countP_le_length ?_
    simp
theorem oregionL_sound {G : Globals} (hz : PF P) {E : HEx} (hE : HSound P G E) (hm : P.follows .mixedOrders = true) (hf : Fine G N w0) {n : Nat} {ops : Array Oper} {id : Nat} {ro' : Option Nat} {k : Nat} {Q : Exit → Act → World → Prop} {T T' : Tr Value} {M' : AMem} {a : Act}
    {z : Nat} {es : List Nat} {hs hs' : List Hint} {R : List Prop}
    (h : oregionL P G E n ops.toList z es hs T M = some (T', M', hs', R)) (hR : All R) (hr : Rel N w0 ρ M w) (ht : TJ ρ n T a.tmps)
    (hQ : ∀ ρ' a' w', ρ.le ρ' → Rel N w0 ρ' M' w' → TJ ρ' n T' a'.tmps → a'.defers = a.defers → Q .normal a' w') : (Code.region id ops true).wpIn (fen ro') k P Q a w := by
  refine wpIn_region_any hm ?_
  unfold oregionL at h
  split at h
  rotate_left
  · cases h
  rename_i oz hoz
  rw [nth_eq] at hoz
  split at h
  rotate_left
  · cases h
  rename_i t d hop hg hdst
  split at h
  rotate_left
  · cases h
  rename_i recs T1 M1 ver hs1 R1 hdr
  split at h
  rotate_left
  · cases h
  rename_i pl hpl
  split at h
  rotate_left
  · cases h
  rename_i R2 hck
  obtain ⟨hnz, h⟩ := cond_some h
  cases h
  rw [All.append] at hR
  rw [Bool.and_eq_true] at hnz
  obtain ⟨hnz, hchk⟩ := hnz
  simp only [lateChk, Bool.and_eq_true] at hchk
  obtain ⟨c1, c2, c3, c4, c5⟩ := hchk
  have c1 : Nat.succ d ≤ n := by simpa using c1
  obtain ⟨Tf, Mf, vf, wf, ef, gf, h1, h2, h3, h4, h5, h6, hd⟩ := region_ok hz hE hf hdr hR.1 hpl hck hR.2
  have hlen : (addE ops.toList z es).length = ops.toList.length := addE_length _ _ _
  have hatz : (addE ops.toList z es)[z]? = some { oz with after := oz.after ++ (es.map fun e => (⟨e, .data⟩ : Edge)).toArray } := by rw [addE_at, hoz]; simp only [Option.map_some, if_pos]
  have hxf : ∀ i, (fun i => decide (i < (addE ops.toList z es).length) && isLz (gf i).h) i = false := by
    intro i
    show (decide (i < (addE ops.toList z es).length) && isLz (gf i).h) = false
    by_cases hil : i < (addE ops.toList z es).length
    · have h9 := h6 i _ (List.getElem?_eq_getElem hil)
      have := List.all_eq_true.1 hnz _ (List.mem_of_getElem? h9)
      simp only [Bool.not_eq_true'] at this
      rw [this, Bool.and_false]
    · rw [decide_eq_false hil, Bool.false_and]
  have hw : wf z = true := by
    rw [← (hd.st z _ hatz).wd]
    unfold gd
    simp only [hg]
  have hnlt : n < bigger := ht.2.1
  have hjk : ∀ t', slot (Tf 0) t' = if t' = d then .tuple #[undef] else slot T t' := fun t' => by rw [h1]; exact slot_set (Nat.lt_of_lt_of_le c1 (Nat.le_of_lt hnlt)) t'
  have hok : NOk P n ops.toList z t d es (infosS (flagsL (recs.map (·.ver) ++ [ver]) (addE ops.toList z es)) (addE ops.toList z es)) Tf := by
    refine ⟨⟨oz, hoz, hop, hg, hdst⟩, fun j o ho hd2 => ?_, c1, c3, c4, fun x hx => ?_, by rw [hjk, if_pos rfl]; rfl⟩
    · have := dstUniq_at _ 0 z d c2 j o ho hd2
      omega
    · rw [nth_eq, hx] at c5
      exact c5
  have := nany_sound hnlt hz hf hxf hd hw hok (ρ0 := ρ) (d0 := a.defers) (ro' := ro') (k := k) (Q := Q) (by rw [← hlen, h3, h4]; exact hQ) ops.size (Array.replicate ops.size false) a w.drew ?_ ?_
  · simpa using this
  · refine ⟨by simp, fun i o _ hl => absurd hl (not_listed i), .inl ⟨ρ, by rw [hlen]; simp, fun i o _ hl => absurd hl (not_listed i), ⟨0, by omega, .inl rfl, fun y _ _ => ⟨fun hl => absurd hl (not_listed _), fun h => by omega⟩, by rw [h2]; exact hr.drew⟩, ⟨ht.1, fun t' => ⟨slot (Tf 0) t', .inl ⟨fun i hl => absurd hl.1 (not_listed i), rfl⟩, ?_⟩⟩, rfl, Emb.le.refl _, fun i hx => by have h0 := hxf i; simp only at h0 hx; rw [h0] at hx; cases hx⟩⟩
    rw [hjk]
    split
    · exact .inl rfl
    · exact ht.2.2 t'
  · refine Nat.le_trans List.countP_le_length ?_
    simp
theorem oregionD_sound {G : Globals} (hz : PF P) {E : HEx} (hE : HSound P G E) (hm : P.follows .mixedOrders = true) (hf : Fine G N w0) {n : Nat} {ops : Array Oper} {id : Nat} {ro' : Option Nat} {k : Nat} {Q : Exit → Act → World → Prop} {T T' : Tr Value} {M' : AMem} {a : Act}
    {hs hs' : List Hint} {R : List Prop}
    (h : oregionD P G E n ops.toList hs T M = some (T', M', hs', R)) (hR : All R) (hr : Rel N w0 ρ M w) (ht : TJ ρ n T a.tmps)
    (hQ : ∀ ρ' a' w', ρ.le ρ' → Rel N w0 ρ' M' w' → TJ ρ' n T' a'.tmps → a'.defers = a.defers → Q .normal a' w') : (Code.region id ops true).wpIn (fen ro') k P Q a w := by
  unfold oregionD at h
  split at h
  · exact oregionO_sound hz hE hm hf h hR hr ht hQ
  · split at h
    · exact oregionZ_sound hz hE hm hf h hR hr ht hQ
    · exact oregionL_sound hz hE hm hf h hR hr ht hQ
    · exact oregionO_sound hz hE hm hf h hR hr ht hQ
end
end Go.Sim
