/- Runs of the abstract machine, and that each is a run of the model. No conditions. -/
import Derived.Test.YtfgdbanigkfjlaaDoorSa
namespace Go.Sim
open Go.RowKit
section
variable {P : Program} {N : Prot} {w0 : World} {ρ : Emb} {M : AMem} {w : World}

theorem map_congr {e1 e2 : Operand → Value} {xs : Array Operand} (h : ∀ x ∈ xs, e1 x = e2 x) : xs.map e1 = xs.map e2 := Array.map_congr_left h
theorem opt_congr {e1 e2 : Operand → Value} {x : Option Operand} (h : ∀ y ∈ x.toArray, e1 y = e2 y) : x.map e1 = x.map e2 := by
  cases x with
  | none => rfl
  | some y => simp only [Option.map_some]; rw [h y (by simp)]
theorem pfo_congr {e1 e2 : Operand → Value} {o : Oper} (h : ∀ x ∈ o.op.operands, e1 x = e2 x) (M : AMem) : pfo P e1 o M = pfo P e2 o M := by
  unfold pfo
  have h1 : o.op.operands.toList.all (fun x => pf (e1 x)) = o.op.operands.toList.all (fun x => pf (e2 x)) := by
    have : ∀ x ∈ o.op.operands.toList, e1 x = e2 x := fun x hx => h x (Array.mem_toList_iff.1 hx)
    generalize o.op.operands.toList = l at this
    induction l with
    | nil => rfl
    | cons x l ih => simp only [List.all_cons]; rw [this x (by simp), ih fun y hy => this y (by simp [hy])]
  rw [h1]
  cases hs : noSel o.op with
  | false => rfl
  | true =>
    have hsel : ∀ cs b, o.op ≠ .select cs b := fun cs b e => by rw [e] at hs; exact Bool.noConfusion (show false = true from hs)
    rw [execOp_congr o hsel h]
theorem parts_congr {e1 e2 : Operand → Value} {parts : Array (Nat × Operand)} (h : ∀ x ∈ (parts.toList.map (·.2)).toArray, e1 x = e2 x) : (parts.map fun (i, x) => (i, e1 x)) = (parts.map fun (i, x) => (i, e2 x)) := by
  refine Array.map_congr_left ?_
  intro p hp
  obtain ⟨i, x⟩ := p
  simp only
  rw [h x (by simp; exact ⟨i, hp⟩)]
theorem abuiltin_congr {e1 e2 : Operand → Value} {o : Oper} {c : Call} {b : Builtin} (hc : o.op = .call c) (hb : c.callee = .builtin b) (h : ∀ x ∈ o.op.operands, e1 x = e2 x) (M : AMem) : abuiltin P e1 o c b M = abuiltin P e2 o c b M := by
  have hm : ∀ x ∈ c.args, e1 x = e2 x := fun x hx => h x (by rw [hc]; simp [Op.operands, Call.operands, hb, hx])
  unfold abuiltin
  rw [pfo_congr h]
  split
  · rename_i s x t tx h1 h2
    rw [hm s (by rw [toList_two h1]; simp), hm x (by rw [toList_two h1]; simp)]
  · rename_i x t h1 h2
    rw [hm x (by rw [toList_one h1]; simp)]
  · rfl
theorem aop_congr {e1 e2 : Operand → Value} {o : Oper} (h : ∀ x ∈ o.op.operands, e1 x = e2 x) (M : AMem) : aop P e1 o M = aop P e2 o M := by
  have hp := pfo_congr (P := P) h M
  unfold aop
  rw [hp]
  split
  case h_29 => rfl
  case h_4 => rfl
  all_goals (rename_i hop; have h0 := h; rw [hop] at h; simp only [Op.operands] at h)
  case h_1 => rw [h _ (by simp)]
  case h_2 => rw [h _ (by simp)]
  case h_3 c a b =>
    have h1 : e1 c = e2 c := h c (by simp)
    have h2 : e1 a = e2 a := h a (by simp)
    have h3 : e1 b = e2 b := h b (by simp)
    rw [h1, h2, h3]
  case h_5 => rw [h _ (by simp)]
  case h_6 => rw [h _ (by simp)]
  case h_7 => rw [h _ (by simp), h _ (by simp)]
  case h_8 => rw [h _ (by simp)]
  case h_9 => rw [h _ (by simp), h _ (by simp)]
  case h_10 => rw [h _ (by simp)]
  case h_11 fn first cap => rw [map_congr (xs := first) fun x hx => h x (by simp [hx]), map_congr (xs := cap) fun x hx => h x (by simp [hx])]
  case h_12 t r => rw [opt_congr (x := r) fun x hx => h x hx]
  case h_13 => rw [h _ (by simp), h _ (by simp)]
  case h_14 => rw [h _ (by simp)]
  case h_15 => rw [h _ (by simp)]
  case h_16 => rw [h _ (by simp), h _ (by simp)]
  case h_17 => rw [h _ (by simp)]
  case h_18 => rw [parts_congr h]
  case h_19 => rw [parts_congr h]
  case h_20 t x lo hi mx =>
    rw [h x (by simp), opt_congr (x := lo) fun y hy => h y (by simp at hy; simp [hy]), opt_congr (x := hi) fun y hy => h y (by simp at hy; simp [hy])]
  case h_21 => rw [h _ (by simp), h _ (by simp)]
  case h_22 => rw [h _ (by simp), h _ (by simp), h _ (by simp)]
  case h_23 => rw [h _ (by simp), h _ (by simp), h _ (by simp)]
  case h_24 => rw [h _ (by simp), h _ (by simp)]
  case h_25 => rw [h _ (by simp), h _ (by simp), h _ (by simp)]
  case h_26 => rw [h _ (by simp)]
  case h_27 => rw [h _ (by simp)]
  case h_28 c =>
    split
    · rename_i b hb
      exact abuiltin_congr hop hb h0 M
    · rfl
theorem acall_congr {e1 e2 : Operand → Value} {c : Call} (h : ∀ x ∈ c.operands, e1 x = e2 x) (M : AMem) : acall P e1 c M = acall P e2 c M := by
  have hm : c.args.map e1 = c.args.map e2 := map_congr fun x hx => h x (by unfold Call.operands; cases c.callee <;> simp [hx])
  unfold acall
  rw [hm]
  split
  · rename_i fo hc
    rw [h fo (by unfold Call.operands; rw [hc]; simp)]
  · rename_i r name hc
    rw [h r (by unfold Call.operands; rw [hc]; simp)]
  · rfl
theorem aext_congr {e1 e2 : Operand → Value} {c : Call} (h : ∀ x ∈ c.operands, e1 x = e2 x) : aext P e1 c = aext P e2 c := by
  have hm : c.args.map e1 = c.args.map e2 := map_congr fun x hx => h x (by unfold Call.operands; cases c.callee <;> simp [hx])
  unfold aext
  rw [hm]
  split
  · rename_i fo hc
    rw [h fo (by unfold Call.operands; rw [hc]; simp)]
  · rfl

/-! ### What runs code -/
inductive AEx where
  | normal
  | ret
  | exit (id : Nat)
structure Ex where
  code : Nat → Option Nat → Code → Tr Value → List Nat → AMem → Option (AEx × Tr Value × List Nat × AMem)
  call : FuncId → Array Value → AMem → Option (Value × AMem)
  round : Nat → Array Value → AMem → Option (Value × AMem)
def okConst (v : Value) : Bool := v.cells.toList.all isFlat
def okOpd : Operand → Bool
  | .const v => okConst v
  | _ => true
def okOper (o : Oper) : Bool :=
  (match o.op with | .select .. => false | .defer _ => false | _ => true) && o.op.operands.toList.all okOpd
/-- Which package-level variables are known. -/
noncomputable def isRom (M : AMem) (g : Nat) : Bool :=
  match M.get g with
  | some (.rom _ .glob) => true
  | _ => false
def noGlobal (o : Oper) : Bool := o.op.operands.toList.all fun | .global _ => false | _ => true
noncomputable def romsOk (M : AMem) (o : Oper) : Bool :=
  match noGlobal o with
  | true => true
  | false => o.op.operands.toList.all fun | .global g => isRom M g | _ => true
noncomputable def aenv (T : Tr Value) : Operand → Value
  | .tmp t => slot T t
  | .const v => v
  | .global g => .pointer (some ⟨g, 0, none⟩)
  | .func f => .func (.func f) #[] #[]
def acalled : Op → Option Call
  | .call c => match c.callee with
    | .builtin _ => none
    | _ => some c
  | _ => none
/-- Numbers of blocks stay small. -/
noncomputable def limited (r : Option (Option Value × AMem)) : Option (Option Value × AMem) :=
  match r with
  | some (v, M) => bif Nat.ble (Nat.succ M.nxt) bigger then some (v, M) else none
  | none => none
noncomputable def ostep (P : Program) (E : Ex) (o : Oper) (T : Tr Value) (M : AMem) : Option (Option Value × AMem) := limited <|
  bif okOper o && romsOk M o then
    match acalled o.op with
    | some c => match acall P (aenv T) c M with
      | some (.fn f args) => match E.call f args M with
        | some (v, M') => some (some v, M')
        | none => none
      | some (.yl b args) => match E.round b args M with
        | some (v, M') => some (some v, M')
        | none => none
      | none => match aext P (aenv T) c with
        | some v => some (some v, M)
        | none => none
    | none => aop P (aenv T) o M
  else none
/-- The fence: everything is let in; of a round, or of none. -/
def fen (ro : Option Nat) : Fence := { Fence.wide with round := ro }
theorem fen_room (ro : Option Nat) (k : Nat) : (fen ro).room k := fun d hd => by simp [fen, Fence.wide] at hd
theorem fen_none : fen none = Fence.wide := rfl
/-- Which round the activation is of. -/
def RoR (ρ : Emb) : Option Nat → Option Nat → Prop
  | none, none => True
  | some b, some B => ρ b = some ⟨B, 0, 0, 0⟩
  | _, _ => False
def DR (ρ : Emb) : List Nat → List Deferred → Prop
  | [], [] => True
  | d :: D, x :: X => (∃ B, ρ d = some ⟨B, 0, 0, 0⟩ ∧ x = { target := .collected B, args := #[] }) ∧ DR ρ D X
  | _, _ => False
theorem DR.mono {ρ ρ' : Emb} (hl : ρ.le ρ') : ∀ {D : List Nat} {X : List Deferred}, DR ρ D X → DR ρ' D X
  | [], [], _ => trivial
  | _ :: _, _ :: _, ⟨⟨B, h1, h2⟩, h3⟩ => ⟨⟨B, hl _ _ h1, h2⟩, h3.mono hl⟩
  | [], _ :: _, h => h.elim
  | _ :: _, [], h => h.elim
theorem RoR.mono {ρ ρ' : Emb} (hl : ρ.le ρ') {a b : Option Nat} (h : RoR ρ a b) : RoR ρ' a b := by
  cases a <;> cases b <;> first | exact h | exact hl _ _ h
def toExit : AEx → Exit
  | .normal => .normal
  | .ret => .ret
  | .exit id => .exit id
/-- What a walk of code comes to. -/
def PostC (N : Prot) (w0 : World) (ρ : Emb) (n : Nat) (e : AEx) (T : Tr Value) (D : List Nat) (M : AMem) : Exit → Act → World → Prop := fun e' a' w' =>
  e' = toExit e ∧ ∃ ρ', ρ.le ρ' ∧ Rel N w0 ρ' M w' ∧ TR ρ' n T a'.tmps ∧ DR ρ' D a'.defers
def PostF (N : Prot) (w0 : World) (ρ : Emb) (v : Value) (M : AMem) : Ending → World → Prop := fun e' w' =>
  ∃ ρ' v', ρ.le ρ' ∧ e' = .returned v' ∧ VR ρ' v v' ∧ Rel N w0 ρ' M w'
structure Sound (P : Program) (N : Prot) (w0 : World) (E : Ex) : Prop where
  code : ∀ n ro c T D M e T' D' M', E.code n ro c T D M = some (e, T', D', M') → ∀ ρ w a ro' (k : Nat), Rel N w0 ρ M w → TR ρ n T a.tmps → DR ρ D a.defers → RoR ρ ro ro' →
    c.wpIn (fen ro') k P (PostC N w0 ρ n e T' D' M') a w
  loop : ∀ n ro c T D M e T' D' M', E.code n ro (.loop c) T D M = some (e, T', D', M') → ∀ ρ w a ro', Rel N w0 ρ M w → TR ρ n T a.tmps → DR ρ D a.defers → RoR ρ ro ro' →
    ∀ (b : Frame) (q : List Item) (cs : List Frame), b.roundOf = ro' → ∃ e' a' w', PostC N w0 ρ n e T' D' M' e' a' w' ∧ ArrivesIn (Machine.fenced P (fen ro')) P (lone (b.atR a (.code c :: .inLoop c :: q)) cs w) b q cs e' a' w'
  call : ∀ f args M v M', E.call f args M = some (v, M') → ∀ ρ w args' ro' (k : Nat), Rel N w0 ρ M w → VRs ρ args.toList args'.toList → CallsIn (fen ro') k P f args' w (PostF N w0 ρ v M')
  round : ∀ b args M v M', E.round b args M = some (v, M') → ∀ ρ w args' B ro' (k : Nat), Rel N w0 ρ M w → VRs ρ args.toList args'.toList → ρ b = some ⟨B, 0, 0, 0⟩ →
    ∃ f tmps assign body, (Instr.yield B args').run P w = .ok (.round B f tmps assign body) w ∧ RoundIn (fen ro') k P B f tmps assign body w (PostF N w0 ρ v M')
end
end Go.Sim
namespace Go.Sim
open Go.RowKit
section
variable {P : Program} {N : Prot} {w0 : World} {ρ : Emb} {M : AMem} {w : World}

noncomputable def maskE (o : Oper) (e : Operand → Value) : Operand → Value := fun x => open Classical in if x ∈ o.op.operands then e x else undef
theorem maskE_in {o : Oper} {e : Operand → Value} {x : Operand} (h : x ∈ o.op.operands) : maskE o e x = e x := by unfold maskE; rw [if_pos h]
theorem undefR : VR ρ undef undef := .tuple _ _ .nil
theorem maskE_R {o : Oper} {e e' : Operand → Value} (h : ∀ x ∈ o.op.operands, VR ρ (e x) (e' x)) : EnvR ρ (maskE o e) (maskE o e') := by
  intro x
  unfold maskE
  split
  · rename_i hx; exact h x hx
  · exact undefR
theorem fen_depth (ro : Option Nat) : (fen ro).depth.isSome = false := rfl
theorem acalled_call {o : Op} {c : Call} (h : acalled o = some c) : o = .call c := by
  unfold acalled at h
  split at h
  · split at h
    · cases h
    · cases h; rfl
  · cases h
theorem acalled_loud {o : Op} {c : Call} (h : acalled o = some c) : quietOp o ≠ true := by
  unfold acalled at h
  split at h
  · rename_i c'
    split at h
    · cases h
    · rename_i hc
      cases h
      unfold quietOp
      simp only
      split
      · rename_i e; exact absurd e (hc _)
      · rename_i e; exact absurd e (hc _)
      · simp
  · cases h
theorem limited_some {x : Option (Option Value × AMem)} {r : Option Value} {M' : AMem} (h : limited x = some (r, M')) : M'.nxt < bigger ∧ x = some (r, M') := by
  unfold limited at h
  split at h
  · obtain ⟨h1, h2⟩ := cond_some h
    cases h2
    have h3 : Nat.succ M'.nxt ≤ bigger := by simpa using h1
    exact ⟨h3, rfl⟩
  · cases h
theorem ostep_sound (hz : zerosFine P) {E : Ex} (hE : Sound P N w0 E) {o : Oper} {T : Tr Value} {r : Option Value} {M' : AMem} (hs : ostep P E o T M = some (r, M')) (hr : Rel N w0 ρ M w) {a : Act}
    (henv : ∀ x ∈ o.op.operands, VR ρ (aenv T x) (a.eval x)) {ro' : Option Nat} {k : Nat} {next : Act → World → Prop} {Q : Exit → Act → World → Prop}
    (hn : ∀ ρ' r' w', ρ.le ρ' → OptR ρ' r r' → Rel N w0 ρ' M' w' → (quietOp o.op = true → M' = M ∧ w' = w ∧ ρ' = ρ) → next (a.put o.dst (r'.getD undef)) w') : o.wpIn (fen ro') k P a w next Q := by
  unfold ostep at hs
  obtain ⟨hlim, hs⟩ := limited_some hs
  obtain ⟨hok0, hs⟩ := cond_some hs
  simp only [Bool.and_eq_true] at hok0
  have hok := hok0.1
  unfold okOper at hok
  simp only [Bool.and_eq_true] at hok
  have hnd : ∀ c, o.op ≠ .defer c := fun c e => by rw [e] at hok; exact Bool.noConfusion (show false = true from hok.1)
  have hsel : ∀ cs b, o.op ≠ .select cs b := fun cs b e => by rw [e] at hok; exact Bool.noConfusion (show false = true from hok.1)
  refine ⟨fun _ _ => trivial, ?_⟩
  rw [Oper.semAt_eq _ _ _ hnd, execOp_congr (ρ' := maskE o a.eval) o hsel (fun x hx => (maskE_in hx).symm)]
  have hE' := maskE_R henv
  split at hs
  · rename_i c hc
    have hcall := acalled_call hc
    have hloud := acalled_loud hc
    have hcongr : acall P (aenv T) c M = acall P (maskE o (aenv T)) c M := acall_congr (fun x hx => (maskE_in (by rw [hcall]; exact hx)).symm) M
    rw [hcongr] at hs
    have hex : execOp (maskE o a.eval) o = (do let d ← resolve (maskE o a.eval) c o.type; invoke d.target d.args) := by unfold execOp; rw [hcall]
    rw [hex]
    split at hs
    · rename_i f args hac
      split at hs
      rotate_left
      · cases hs
      rename_i v M1 hcl
      cases hs
      obtain ⟨as', h1, h2⟩ := acall_sound hr hE' hac o.type
      rw [h1]
      refine ⟨fun h => absurd h (by rw [fen_depth]; simp), ?_⟩
      refine (hE.call _ _ _ _ _ hcl ρ w as' ro' (k - 1) hr h2).mono ?_
      rintro e w' ⟨ρ', v', hle, rfl, hv, hrel⟩
      exact hn ρ' (some v') w' hle hv hrel (fun h => absurd h hloud)
    · rename_i b args hac
      split at hs
      rotate_left
      · cases hs
      rename_i v M1 hcl
      cases hs
      obtain ⟨B, as', hB, h1, h2⟩ := acall_yield hE' hac o.type w
      obtain ⟨f, tmps, assign, body, h3, h4⟩ := hE.round _ _ _ _ _ hcl ρ w as' B ro' (k - 1) hr h2 hB
      rw [h1, h3]
      refine ⟨fun h => absurd h (by rw [fen_depth]; simp), ?_⟩
      refine h4.mono ?_
      rintro e w' ⟨ρ', v', hle, rfl, hv, hrel⟩
      exact hn ρ' (some v') w' hle hv hrel (fun h => absurd h hloud)
    · rw [aext_congr (e2 := maskE o (aenv T)) fun x hx => (maskE_in (by rw [hcall]; exact hx)).symm] at hs
      split at hs
      rotate_left
      · cases hs
      rename_i v hx
      cases hs
      obtain ⟨h1, h2⟩ := aext_sound hE' hx o.type w
      rw [h1]
      exact hn ρ (some v) w (Emb.le.refl _) h2 hr (fun h => absurd h hloud)
  · rw [aop_congr (e2 := maskE o (aenv T)) fun x hx => (maskE_in hx).symm] at hs
    obtain ⟨ρ', r', w', h1, h2, h3, h4, h5⟩ := aop_sound hz hr hE' hs hlim
    rw [h2]
    cases r' with
    | none => exact hn ρ' none w' h1 h3 h4 h5
    | some v' => exact hn ρ' (some v') w' h1 h3 h4 h5

/-! ### One operation after the other -/
noncomputable def gd (ops : List Oper) (T : Tr Value) (o : Oper) : Bool :=
  match o.guard with
  | none => true
  | some (j, want) => match nth ops j with
    | some oj => match oj.dst with
      | some d => match slot T d with
        | .bool b => Bool.rec (Bool.rec true false b) (Bool.rec false true b) want
        | _ => false
      | none => false
    | none => false
noncomputable def aput (n : Nat) (dst : Option Tmp) (v : Value) (T : Tr Value) : Option (Tr Value) :=
  match dst with
  | none => some T
  | some d => bif Nat.ble (Nat.succ d) n then some (Tr.set v T (Nat.succ d)) else none
theorem slot_set {T : Tr Value} {d : Nat} {v : Value} (hd : d < bigger) (t : Nat) : slot (Tr.set v T (Nat.succ d)) t = if t = d then v else slot T t := by
  unfold slot
  rw [Tr.get_set _ _ _ _ (by omega) (by omega) (by unfold bigger at hd; omega)]
  by_cases e : t = d
  · rw [if_pos e, if_pos (by rw [e])]; rfl
  · rw [if_neg e, if_neg (by omega)]
theorem getD_set (tmps : Array Value) (d t : Nat) (u x : Value) : (tmps.setIfInBounds d u).getD t x = if t = d ∧ d < tmps.size then u else tmps.getD t x := by
  simp only [Array.getD_eq_getD_getElem?, Array.getElem?_setIfInBounds]
  by_cases e : d = t
  · subst e
    by_cases hd : d < tmps.size
    · simp [hd]
    · simp [hd]
  · simp [e, Ne.symm e]
theorem TR.put {n : Nat} {T T' : Tr Value} {a : Act} {dst : Option Tmp} {v u : Value} (h : TR ρ n T a.tmps) (hv : VR ρ v u) (hp : aput n dst v T = some T') : TR ρ n T' (a.put dst u).tmps := by
  unfold aput at hp
  cases dst with
  | none => cases hp; exact h
  | some d =>
    obtain ⟨hd, hb⟩ := cond_some hp
    cases hb
    have hd : Nat.succ d ≤ n := by simpa using hd
    obtain ⟨h1, h2, h3⟩ := h
    refine ⟨by simp [Act.put, h1], h2, fun t => ?_⟩
    rw [slot_set (by omega)]
    show VR ρ _ ((a.tmps.setIfInBounds d u).getD t undef)
    rw [getD_set]
    by_cases e : t = d
    · rw [if_pos e, if_pos ⟨e, by omega⟩]; exact hv
    · rw [if_neg e, if_neg (fun h => e h.1)]; exact h3 t
theorem put_defers (a : Act) (dst : Option Tmp) (u : Value) : (a.put dst u).defers = a.defers := by cases dst <;> rfl
theorem aenv_R {n : Nat} {T : Tr Value} {a : Act} (h : TR ρ n T a.tmps) (hr : Rel N w0 ρ M w) {o : Oper} (ho : okOper o = true) (hrom : romsOk M o = true) :
    ∀ x ∈ o.op.operands, VR ρ (aenv T x) (a.eval x) := by
  unfold okOper at ho
  simp only [Bool.and_eq_true] at ho
  intro x hx
  cases x with
  | tmp t => exact h.2.2 t
  | const v =>
    have := List.all_eq_true.1 ho.2 _ (Array.mem_toList_iff.2 hx)
    exact VR.of_cells this
  | global g =>
    unfold romsOk at hrom
    split at hrom
    · rename_i hng
      have := List.all_eq_true.1 hng _ (Array.mem_toList_iff.2 hx)
      cases this
    · have := List.all_eq_true.1 hrom _ (Array.mem_toList_iff.2 hx)
      simp only [isRom] at this
      split at this
      · rename_i c hc
        exact .ptr g 0 ⟨g, 0, 0, 0⟩ (hr.glob _ _ hc)
      · cases this
  | func f => exact .func _ _ _ _ _ (fun k e => by cases e) .nil .nil
end
end Go.Sim
namespace Go.Sim
open Go.RowKit
section
variable {P : Program} {N : Prot} {w0 : World} {ρ : Emb} {M : AMem} {w : World}
theorem ostep_ok {E : Ex} {o : Oper} {T : Tr Value} {r : Option Value} {M' : AMem} (hs : ostep P E o T M = some (r, M')) : okOper o = true ∧ romsOk M o = true := by
  unfold ostep at hs
  obtain ⟨_, hs⟩ := limited_some hs
  obtain ⟨h, _⟩ := cond_some hs
  simpa using h
theorem OptR.getD {ρ : Emb} {r r' : Option Value} (h : OptR ρ r r') : VR ρ (r.getD undef) (r'.getD undef) := by
  cases r <;> cases r' <;> first | exact h | exact undefR | exact (show False from h).elim
theorem gd_eq {n : Nat} {T : Tr Value} {a : Act} (h : TR ρ n T a.tmps) (ops : List Oper) (o : Oper) : Region.wanted o (yielded ops.toArray a.tmps) = gd ops T o := by
  unfold Region.wanted gd
  cases hg : o.guard with
  | none => rfl
  | some p =>
    obtain ⟨j, want⟩ := p
    simp only [nth_eq]
    unfold yielded
    simp only [List.getElem?_toArray]
    cases hj : ops[j]? with
    | none => rfl
    | some oj =>
      simp only [Option.bind_some]
      cases hd : oj.dst with
      | none => rfl
      | some d =>
        simp only [Option.bind_some]
        have hv := h.2.2 d
        cases ht : a.tmps[d]? with
        | none =>
          have : a.tmps.getD d undef = undef := by simp [Array.getD_eq_getD_getElem?, ht]
          rw [this] at hv
          generalize slot T d = y at hv
          unfold undef at hv
          cases hv with
          | flat _ hf => exact Bool.noConfusion (show false = true from hf)
          | tuple => rfl
        | some u =>
          have : a.tmps.getD d undef = u := by simp [Array.getD_eq_getD_getElem?, ht]
          rw [this] at hv
          generalize slot T d = y at hv
          cases hv with
          | flat _ hf => cases u <;> first | rfl | (rename_i b; cases b <;> cases want <;> rfl)
          | _ => rfl
noncomputable def aops (P : Program) (E : Ex) (n : Nat) (ops : List Oper) (l : List Oper) : Tr Value → AMem → Option (Tr Value × AMem) :=
  List.rec (motive := fun _ => Tr Value → AMem → Option (Tr Value × AMem)) (fun T M => some (T, M))
    (fun o _ ih T M => match gd ops T o with
      | true => match ostep P E o T M with
        | some (r, M') => match aput n o.dst (r.getD undef) T with
          | some T' => ih T' M'
          | none => none
        | none => none
      | false => match aput n o.dst undef T with
        | some T' => ih T' M
        | none => none) l
theorem aops_nil {E : Ex} {n : Nat} {ops : List Oper} {T : Tr Value} : aops P E n ops [] T M = some (T, M) := rfl
theorem aops_cons {E : Ex} {n : Nat} {ops : List Oper} {o : Oper} {l : List Oper} {T : Tr Value} : aops P E n ops (o :: l) T M = match gd ops T o with
      | true => match ostep P E o T M with
        | some (r, M') => match aput n o.dst (r.getD undef) T with
          | some T' => aops P E n ops l T' M'
          | none => none
        | none => none
      | false => match aput n o.dst undef T with
        | some T' => aops P E n ops l T' M
        | none => none := rfl
theorem aops_sound (hz : zerosFine P) {E : Ex} (hE : Sound P N w0 E) {n : Nat} {ops : List Oper} {ro' : Option Nat} {k : Nat} {Q : Exit → Act → World → Prop} {T' : Tr Value} {M' : AMem} :
    ∀ (l : List Oper) (i : Nat) (T : Tr Value) (M : AMem) (ρ : Emb) (a : Act) (w : World), (∀ j, l[j]? = ops[i + j]?) → aops P E n ops l T M = some (T', M') → Rel N w0 ρ M w → TR ρ n T a.tmps →
      (∀ ρ' a' w', ρ.le ρ' → Rel N w0 ρ' M' w' → TR ρ' n T' a'.tmps → a'.defers = a.defers → Q .normal a' w') → wpOpsIn (fen ro') k P ops.toArray Q ((List.range l.length).map (i + ·)) a w := by
  intro l
  induction l with
  | nil =>
    intro i T M ρ a w _ h hr ht hQ
    rw [aops_nil] at h
    cases h
    exact hQ ρ a w (Emb.le.refl _) hr ht rfl
  | cons o l ih =>
    intro i T M ρ a w hl h hr ht hQ
    have hi : ops[i]? = some o := by have := hl 0; simpa using this.symm
    have hl' : ∀ j, l[j]? = ops[i + 1 + j]? := fun j => by have := hl (j + 1); simp at this; rw [this]; congr 1; omega
    have hlist : ((List.range (o :: l).length).map (i + ·)) = i :: ((List.range l.length).map (i + 1 + ·)) := by
      simp only [List.length_cons, List.range_succ_eq_map, List.map_cons, List.map_map, Nat.add_zero]
      congr 1
      apply List.map_congr_left
      intro x _
      simp only [Function.comp_apply]
      omega
    rw [hlist]
    unfold wpOpsIn
    simp only [List.getElem?_toArray, hi]
    rw [aops_cons] at h
    rw [gd_eq ht]
    cases hg : gd ops T o with
    | true =>
      rw [hg] at h
      simp only at h
      split at h
      rotate_left
      · cases h
      rename_i r M1 hs
      split at h
      rotate_left
      · cases h
      rename_i T1 hp
      rw [if_pos rfl]
      obtain ⟨ho, hrom⟩ := ostep_ok hs
      refine ostep_sound hz hE hs hr (aenv_R ht hr ho hrom) ?_
      intro ρ1 r' w1 hle hv hrel _
      refine ih (i + 1) T1 M1 ρ1 _ w1 hl' h hrel ((ht.mono hle).put hv.getD hp) ?_
      intro ρ2 a2 w2 hle2 hrel2 ht2 hd
      exact hQ ρ2 a2 w2 (hle.trans hle2) hrel2 ht2 (by rw [hd, put_defers])
    | false =>
      rw [hg] at h
      simp only at h
      split at h
      rotate_left
      · cases h
      rename_i T1 hp
      rw [if_neg (by simp)]
      refine ⟨fun _ _ => trivial, ?_⟩
      refine ih (i + 1) T1 M ρ _ w hl' h hr (ht.put undefR hp) ?_
      intro ρ2 a2 w2 hle2 hrel2 ht2 hd
      exact hQ ρ2 a2 w2 hle2 hrel2 ht2 (by rw [hd, put_defers])
theorem aregion_sound (hz : zerosFine P) {E : Ex} (hE : Sound P N w0 E) {n : Nat} {ops : Array Oper} {id : Nat} {ro' : Option Nat} {k : Nat} {Q : Exit → Act → World → Prop} {T T' : Tr Value} {M' : AMem} {a : Act}
    (h : aops P E n ops.toList ops.toList T M = some (T', M')) (hr : Rel N w0 ρ M w) (ht : TR ρ n T a.tmps)
    (hQ : ∀ ρ' a' w', ρ.le ρ' → Rel N w0 ρ' M' w' → TR ρ' n T' a'.tmps → a'.defers = a.defers → Q .normal a' w') : (Code.region id ops false).wpIn (fen ro') k P Q a w := by
  refine wpIn_region ?_
  have := aops_sound hz hE (ro' := ro') (k := k) ops.toList 0 T M ρ a w (fun j => by rw [Nat.zero_add]) h hr ht hQ
  simpa using this
end
end Go.Sim
namespace Go.Sim
open Go.RowKit

/-! ### Regions that draw their order: what hangs on what -/
structure Info where
  idx : Nat
  dst : Option Tmp
  looks : List Tmp
  loud : Bool
  mask : Nat
def maskOf (acc : List Nat) (o : Oper) : Nat :=
  o.after.toList.foldl (fun s e => bif Region.binds .any e then s ||| (1 <<< e.on) ||| ((acc[e.on]?).getD 0) else s) 0
def looksOf (all : List Oper) (o : Oper) : List Tmp := o.looksAt all.toArray
def infos (all : List Oper) : List Oper → Nat → List Nat → List Info
  | [], _, _ => []
  | o :: r, i, acc => ⟨i, o.dst, looksOf all o, !quietOp o.op, maskOf acc o⟩ :: infos all r (i + 1) (acc ++ [maskOf acc o])
def inLooks (d : Option Tmp) (l : List Tmp) : Bool :=
  match d with
  | some d => l.any (Nat.beq d)
  | none => false
def sameDst (d d' : Option Tmp) : Bool :=
  match d, d' with
  | some d, some d' => Nat.beq d d'
  | _, _ => false
def pairOk (x y : Info) : Bool :=
  bif inLooks x.dst y.looks || (sameDst x.dst y.dst || (inLooks y.dst x.looks || (x.loud && y.loud))) then y.mask.testBit x.idx else true
def pairsOk : List Info → Bool
  | [] => true
  | x :: r => r.all (pairOk x) && pairsOk r
def edgesOk : List Oper → Nat → Bool
  | [], _ => true
  | o :: r, i => o.after.toList.all (fun e => bif Region.binds .any e then Nat.ble (Nat.succ e.on) i else true) && edgesOk r (i + 1)

theorem pairsOk_at : ∀ (l : List Info), pairsOk l = true → ∀ (i j : Nat) (x y : Info), i < j → l[i]? = some x → l[j]? = some y → pairOk x y = true := by
  intro l
  induction l with
  | nil => intro _ i j x y _ h; simp at h
  | cons z l ih =>
    intro h i j x y hij hi hj
    simp only [pairsOk, Bool.and_eq_true] at h
    cases j with
    | zero => omega
    | succ j =>
      cases i with
      | zero =>
        simp at hi hj
        subst hi
        exact List.all_eq_true.1 h.1 y (List.mem_of_getElem? hj)
      | succ i => exact ih h.2 i j x y (by omega) (by simpa using hi) (by simpa using hj)
theorem edgesOk_at : ∀ (l : List Oper) (k : Nat), edgesOk l k = true → ∀ (i : Nat) (o : Oper), l[i]? = some o → ∀ e ∈ o.after, Region.binds .any e = true → e.on < k + i := by
  intro l
  induction l with
  | nil => intro k _ i o h; simp at h
  | cons z l ih =>
    intro k h i o hi e he hb
    simp only [edgesOk, Bool.and_eq_true] at h
    cases i with
    | zero =>
      simp at hi
      subst hi
      have := List.all_eq_true.1 h.1 e (Array.mem_toList_iff.2 he)
      rw [hb] at this
      simp only [cond_true, Nat.ble_eq] at this
      omega
    | succ i =>
      have := ih (k + 1) h.2 i o (by simpa using hi) e he hb
      omega
theorem infos_at (all : List Oper) : ∀ (l : List Oper) (k : Nat) (acc : List Nat) (j : Nat) (o : Oper), l[j]? = some o →
    ∃ x, (infos all l k acc)[j]? = some x ∧ x.idx = k + j ∧ x.dst = o.dst ∧ x.looks = looksOf all o ∧ x.loud = (!quietOp o.op) ∧ x.mask = maskOf (acc ++ ((infos all l k acc).take j).map (·.mask)) o := by
  intro l
  induction l with
  | nil => intro k acc j o h; simp at h
  | cons z l ih =>
    intro k acc j o h
    cases j with
    | zero =>
      simp at h
      subst h
      exact ⟨_, rfl, rfl, rfl, rfl, rfl, by simp [infos]⟩
    | succ j =>
      obtain ⟨x, h1, h2, h3, h4, h5, h6⟩ := ih (k + 1) (acc ++ [maskOf acc z]) j o (by simpa using h)
      refine ⟨x, by simpa [infos] using h1, by omega, h3, h4, h5, ?_⟩
      rw [h6]
      simp [infos, List.append_assoc]
theorem infos_length (all : List Oper) : ∀ (l : List Oper) (k : Nat) (acc : List Nat), (infos all l k acc).length = l.length := by
  intro l
  induction l with
  | nil => intro k acc; rfl
  | cons z l ih => intro k acc; simp [infos, ih]
theorem foldMask (acc : List Nat) : ∀ (l : List Edge) (s j : Nat), (l.foldl (fun s e => bif Region.binds .any e then s ||| (1 <<< e.on) ||| ((acc[e.on]?).getD 0) else s) s).testBit j = true →
    s.testBit j = true ∨ ∃ e ∈ l, Region.binds .any e = true ∧ (e.on = j ∨ ((acc[e.on]?).getD 0).testBit j = true) := by
  intro l
  induction l with
  | nil => intro s j h; exact .inl h
  | cons e l ih =>
    intro s j h
    simp only [List.foldl_cons] at h
    rcases ih _ j h with h1 | ⟨e', he', h2⟩
    · cases hb : Region.binds .any e with
      | false => rw [hb] at h1; exact .inl h1
      | true =>
        rw [hb] at h1
        simp only [cond_true, Nat.testBit_or, Bool.or_eq_true, Nat.one_shiftLeft, Nat.testBit_two_pow, decide_eq_true_eq] at h1
        rcases h1 with (h1 | h1) | h1
        · exact .inl h1
        · exact .inr ⟨e, by simp, hb, .inl h1⟩
        · exact .inr ⟨e, by simp, hb, .inr h1⟩
    · exact .inr ⟨e', by simp [he'], h2⟩

section closure
variable {ops : List Oper} {D : Nat → Prop}
def Closed (ops : List Oper) (D : Nat → Prop) : Prop := ∀ i o, ops[i]? = some o → D i → ∀ e ∈ o.after, Region.binds .any e = true → D e.on
theorem mask_closed (hD : Closed ops D) (he : edgesOk ops 0 = true) : ∀ (i : Nat) (o : Oper) (x : Info), ops[i]? = some o → (infos ops ops 0 [])[i]? = some x → (∀ e ∈ o.after, Region.binds .any e = true → D e.on) → ∀ j, x.mask.testBit j = true → D j := by
  intro i
  induction i using Nat.strongRecOn with
  | _ i ih =>
    intro o x ho hx hpre j hj
    obtain ⟨x', h1, _, _, _, _, h6⟩ := infos_at ops ops 0 [] i o ho
    rw [hx] at h1
    cases h1
    rw [h6] at hj
    unfold maskOf at hj
    rcases foldMask _ _ _ _ hj with h | ⟨e, hmem, hb, h⟩
    · simp at h
    · have hmem := Array.mem_toList_iff.1 hmem
      have hlt := edgesOk_at ops 0 he i o ho e hmem hb
      have hDe := hpre e hmem hb
      rcases h with rfl | h
      · exact hDe
      · have hlt' : e.on < i := by omega
        obtain ⟨oe, hoe⟩ : ∃ oe, ops[e.on]? = some oe := by
          have : i < ops.length := (List.getElem?_eq_some_iff.1 ho).1
          exact ⟨ops[e.on], List.getElem?_eq_getElem (by omega)⟩
        obtain ⟨y, hy, _⟩ := infos_at ops ops 0 [] e.on oe hoe
        have hget : (([] : List Nat) ++ ((infos ops ops 0 []).take i).map (·.mask))[e.on]? = some y.mask := by
          simp only [List.nil_append, List.getElem?_map, List.getElem?_take_of_lt hlt', hy, Option.map_some]
        rw [hget] at h
        exact ih e.on hlt' oe y hoe hy (fun e' he' hb' => hD e.on oe hoe hDe e' he' hb') j h
end closure

/-! ### Equal values -/
def addrEq (a b : Addr) : Bool := Nat.beq a.block b.block && (Nat.beq a.off b.off && (a.spot.isNone && b.spot.isNone))
theorem addrEq_eq {a b : Addr} (h : addrEq a b = true) : a = b := by
  unfold addrEq at h
  simp only [Bool.and_eq_true, Nat.beq_eq, Option.isNone_iff_eq_none] at h
  obtain ⟨a1, a2, a3⟩ := a
  obtain ⟨b1, b2, b3⟩ := b
  simp at h
  obtain ⟨rfl, rfl, rfl, rfl⟩ := h
  rfl
def veq0 : Value → Value → Bool
  | .bool a, .bool b => a == b
  | .int k a, .int k' b => Nat.beq (ikn k) (ikn k') && (a == b)
  | .string a, .string b => a.data.toList == b.data.toList
  | .pointer none, .pointer none => true
  | .pointer (some a), .pointer (some b) => addrEq a b
  | .slice none n c, .slice none n' c' => Nat.beq n n' && Nat.beq c c'
  | .slice (some a) n c, .slice (some b) n' c' => addrEq a b && (Nat.beq n n' && Nat.beq c c')
  | .map none, .map none => true
  | .map (some a), .map (some b) => Nat.beq a b
  | .nilFunc, .nilFunc => true
  | .nilIface, .nilIface => true
  | _, _ => false
theorem veq0_eq {a b : Value} (h : veq0 a b = true) : a = b := by
  unfold veq0 at h
  split at h <;> first | (cases h; done) | skip
  · simp at h; rw [h]
  · simp only [Bool.and_eq_true, Nat.beq_eq, beq_iff_eq] at h
    rw [ikn_inj h.1, h.2]
  · rename_i a b
    simp at h
    obtain ⟨⟨a⟩⟩ := a
    obtain ⟨⟨b⟩⟩ := b
    simp at h
    rw [h]
  · rfl
  · rw [addrEq_eq h]
  · simp only [Bool.and_eq_true, Nat.beq_eq] at h
    rw [h.1, h.2]
  · simp only [Bool.and_eq_true, Nat.beq_eq] at h
    rw [addrEq_eq h.1, h.2.1, h.2.2]
  · rfl
  · simp only [Nat.beq_eq] at h
    rw [h]
  · rfl
  · rfl
def all2 (f : Value → Value → Bool) : List Value → List Value → Bool
  | [], [] => true
  | a :: l, b :: m => f a b && all2 f l m
  | _, _ => false
theorem all2_eq {f : Value → Value → Bool} (hf : ∀ a b, f a b = true → a = b) : ∀ (l m : List Value), all2 f l m = true → l = m := by
  intro l
  induction l with
  | nil => intro m h; cases m with | nil => rfl | cons _ _ => cases h
  | cons a l ih =>
    intro m h
    cases m with
    | nil => cases h
    | cons b m =>
      simp only [all2, Bool.and_eq_true] at h
      rw [hf a b h.1, ih m h.2]
def veqF : Nat → Value → Value → Bool
  | 0, _, _ => false
  | k + 1, a, b => match a, b with
    | .agg a, .agg b => all2 (veqF k) a.toList b.toList
    | .tuple a, .tuple b => all2 (veqF k) a.toList b.toList
    | .iface t v, .iface t' v' => Nat.beq t t' && veqF k v v'
    | .func (.func f) a c, .func (.func f') a' c' => Nat.beq f f' && (all2 (veqF k) a.toList a'.toList && all2 (veqF k) c.toList c'.toList)
    | .func (.yield f) a c, .func (.yield f') a' c' => Nat.beq f f' && (all2 (veqF k) a.toList a'.toList && all2 (veqF k) c.toList c'.toList)
    | a, b => veq0 a b
theorem veqF_eq : ∀ (k : Nat) (a b : Value), veqF k a b = true → a = b := by
  intro k
  induction k with
  | zero => intro a b h; cases h
  | succ k ih =>
    intro a b h
    unfold veqF at h
    split at h
    · rw [Array.toList_inj.1 (all2_eq ih _ _ h)]
    · rw [Array.toList_inj.1 (all2_eq ih _ _ h)]
    · simp only [Bool.and_eq_true, Nat.beq_eq] at h
      rw [h.1, ih _ _ h.2]
    · simp only [Bool.and_eq_true, Nat.beq_eq] at h
      rw [h.1, Array.toList_inj.1 (all2_eq ih _ _ h.2.1), Array.toList_inj.1 (all2_eq ih _ _ h.2.2)]
    · simp only [Bool.and_eq_true, Nat.beq_eq] at h
      rw [h.1, Array.toList_inj.1 (all2_eq ih _ _ h.2.1), Array.toList_inj.1 (all2_eq ih _ _ h.2.2)]
    · exact veq0_eq h
def veq (a b : Value) : Bool := veqF 8 a b
theorem veq_eq {a b : Value} (h : veq a b = true) : a = b := veqF_eq 8 a b h
end Go.Sim
namespace Go.Sim
open Go.RowKit

/-! ### Regions that draw their order: the run, and what is checked -/
def tight (L : List Info) (x : Info) : Bool :=
  L.all fun y => bif y.loud then (bif Nat.beq y.idx x.idx then true else bif Nat.ble (Nat.succ y.idx) x.idx then x.mask.testBit y.idx else y.mask.testBit x.idx) else true
def feasible (L : List Info) (x : Info) (q : Nat) : Bool :=
  (Nat.beq q 0 || L.any fun y => y.loud && Nat.beq (Nat.succ y.idx) q) &&
  L.all fun y => bif y.loud then (bif x.mask.testBit y.idx then Nat.ble (Nat.succ y.idx) q else true) && (bif y.mask.testBit x.idx then Nat.ble q y.idx else true) else true
def planOf (L : List Info) (m : Nat) (x : Info) : List Nat := bif tight L x then [] else (List.range (m + 1)).filter (feasible L x)
def staticOf (ops : List Oper) (L : List Info) : Option (List (List Nat)) :=
  bif pairsOk L && (edgesOk ops 0 && L.all fun x => tight L x || !x.loud) then some (L.map (planOf L ops.length)) else none
def static (ops : List Oper) : Option (List (List Nat)) := staticOf ops (infos ops ops 0 [])
structure Rec where
  T : Tr Value
  M : AMem
  v : Value
  wanted : Bool
section
variable {P : Program} {N : Prot} {w0 : World} {ρ : Emb} {M : AMem} {w : World}
noncomputable def drun (P : Program) (E : Ex) (n : Nat) (ops : List Oper) (l : List Oper) : Tr Value → AMem → Option (List Rec × Tr Value × AMem) :=
  List.rec (motive := fun _ => Tr Value → AMem → Option (List Rec × Tr Value × AMem)) (fun T M => some ([], T, M))
    (fun o _ ih T M => match gd ops T o with
      | true => match ostep P E o T M with
        | some (r, M') => match aput n o.dst (r.getD undef) T with
          | some T' => match ih T' (bif quietOp o.op then M else M') with
            | some (rs, T2, M2) => some (⟨T, M, r.getD undef, true⟩ :: rs, T2, M2)
            | none => none
          | none => none
        | none => none
      | false => match aput n o.dst undef T with
        | some T' => match ih T' M with
          | some (rs, T2, M2) => some (⟨T, M, undef, false⟩ :: rs, T2, M2)
          | none => none
        | none => none) l
theorem drun_nil {E : Ex} {n : Nat} {ops : List Oper} {T : Tr Value} : drun P E n ops [] T M = some ([], T, M) := rfl
theorem drun_cons {E : Ex} {n : Nat} {ops : List Oper} {o : Oper} {l : List Oper} {T : Tr Value} : drun P E n ops (o :: l) T M = match gd ops T o with
      | true => match ostep P E o T M with
        | some (r, M') => match aput n o.dst (r.getD undef) T with
          | some T' => match drun P E n ops l T' (bif quietOp o.op then M else M') with
            | some (rs, T2, M2) => some (⟨T, M, r.getD undef, true⟩ :: rs, T2, M2)
            | none => none
          | none => none
        | none => none
      | false => match aput n o.dst undef T with
        | some T' => match drun P E n ops l T' M with
          | some (rs, T2, M2) => some (⟨T, M, undef, false⟩ :: rs, T2, M2)
          | none => none
        | none => none := rfl
noncomputable def dck (P : Program) (E : Ex) (o : Oper) (r : Rec) (mems : List AMem) (qs : List Nat) : Bool :=
  qs.all fun q => match nth mems q with
    | some Mq => match ostep P E o r.T Mq with
      | some (u, _) => veq (u.getD undef) r.v
      | none => false
    | none => false
noncomputable def dchk (P : Program) (E : Ex) (mems : List AMem) : List (List Nat) → List Oper → List Rec → Bool
  | [], _, _ => true
  | qs :: pl, o :: ops, r :: recs => (bif r.wanted then dck P E o r mems qs else true) && dchk P E mems pl ops recs
  | _, _, _ => false
noncomputable def aregionD (P : Program) (E : Ex) (n : Nat) (ops : List Oper) (T : Tr Value) (M : AMem) : Option (Tr Value × AMem) :=
  match static ops with
  | some pl => match drun P E n ops ops T M with
    | some (recs, T', M') => bif dchk P E (recs.map (·.M) ++ [M']) pl ops recs then some (T', M') else none
    | none => none
  | none => none
theorem dchk_at {E : Ex} {mems : List AMem} : ∀ (pl : List (List Nat)) (ops : List Oper) (recs : List Rec), dchk P E mems pl ops recs = true →
    ∀ (i : Nat) (qs : List Nat) (o : Oper) (r : Rec), pl[i]? = some qs → ops[i]? = some o → recs[i]? = some r → r.wanted = true → dck P E o r mems qs = true := by
  intro pl
  induction pl with
  | nil => intro ops recs _ i qs o r h; simp at h
  | cons qs pl ih =>
    intro ops recs h i qs' o r h1 h2 h3 hw
    cases ops with
    | nil => simp at h2
    | cons o' ops =>
      cases recs with
      | nil => simp at h3
      | cons r' recs =>
        simp only [dchk, Bool.and_eq_true] at h
        cases i with
        | zero =>
          simp at h1 h2 h3
          subst h1 h2 h3
          have := h.1
          rw [hw] at this
          exact this
        | succ i => exact ih ops recs h.2 i qs' o r (by simpa using h1) (by simpa using h2) (by simpa using h3) hw

/-- What the run in the order of the text has come to. -/
structure DStep (P : Program) (E : Ex) (n : Nat) (ops : List Oper) (o : Oper) (T T' : Tr Value) (M M' : AMem) (v : Value) (b : Bool) : Prop where
  wd : gd ops T o = b
  put : aput n o.dst v T = some T'
  off : b = false → v = undef ∧ M' = M
  on : b = true → ∃ r M1, ostep P E o T M = some (r, M1) ∧ v = r.getD undef ∧ M' = bif quietOp o.op then M else M1
theorem drun_spec {E : Ex} {n : Nat} {ops : List Oper} : ∀ (l : List Oper) (T : Tr Value) (M : AMem) (recs : List Rec) (T' : Tr Value) (M' : AMem), drun P E n ops l T M = some (recs, T', M') →
    ∃ (Tf : Nat → Tr Value) (Mf : Nat → AMem) (vf : Nat → Value) (wf : Nat → Bool), Tf 0 = T ∧ Mf 0 = M ∧ Tf l.length = T' ∧ Mf l.length = M' ∧ recs.length = l.length ∧
      ∀ i o, l[i]? = some o → recs[i]? = some ⟨Tf i, Mf i, vf i, wf i⟩ ∧ DStep P E n ops o (Tf i) (Tf (i + 1)) (Mf i) (Mf (i + 1)) (vf i) (wf i) := by
  intro l
  induction l with
  | nil =>
    intro T M recs T' M' h
    rw [drun_nil] at h
    cases h
    exact ⟨fun _ => T, fun _ => M, fun _ => undef, fun _ => false, rfl, rfl, rfl, rfl, rfl, fun i o h => by simp at h⟩
  | cons o l ih =>
    intro T M recs T' M' h
    rw [drun_cons] at h
    have key : ∀ (T1 : Tr Value) (M1 : AMem) (v : Value) (wd : Bool) rs, drun P E n ops l T1 M1 = some (rs, T', M') → recs = ⟨T, M, v, wd⟩ :: rs → DStep P E n ops o T T1 M M1 v wd →
        ∃ (Tf : Nat → Tr Value) (Mf : Nat → AMem) (vf : Nat → Value) (wf : Nat → Bool), Tf 0 = T ∧ Mf 0 = M ∧ Tf (o :: l).length = T' ∧ Mf (o :: l).length = M' ∧ recs.length = (o :: l).length ∧
          ∀ i o', (o :: l)[i]? = some o' → recs[i]? = some ⟨Tf i, Mf i, vf i, wf i⟩ ∧ DStep P E n ops o' (Tf i) (Tf (i + 1)) (Mf i) (Mf (i + 1)) (vf i) (wf i) := by
      intro T1 M1 v wd rs hd hrecs hst
      obtain ⟨Tf, Mf, vf, wf, h1, h2, h3, h4, h5, h6⟩ := ih T1 M1 rs T' M' hd
      refine ⟨fun | 0 => T | i + 1 => Tf i, fun | 0 => M | i + 1 => Mf i, fun | 0 => v | i + 1 => vf i, fun | 0 => wd | i + 1 => wf i, rfl, rfl, h3, h4, by rw [hrecs]; simp [h5], ?_⟩
      intro i o' ho
      cases i with
      | zero =>
        simp at ho
        subst ho
        refine ⟨by rw [hrecs]; rfl, ?_⟩
        simp only [h1, h2]
        exact hst
      | succ i =>
        obtain ⟨h7, h8⟩ := h6 i o' (by simpa using ho)
        exact ⟨by rw [hrecs]; simpa using h7, h8⟩
    split at h
    · rename_i hg
      split at h
      rotate_left
      · cases h
      rename_i r M1 hs
      split at h
      rotate_left
      · cases h
      rename_i T1 hp
      split at h
      rotate_left
      · cases h
      rename_i rs T2 M2 hd
      cases h
      exact key _ _ _ true rs hd rfl ⟨hg, hp, by simp, fun _ => ⟨r, M1, hs, rfl, rfl⟩⟩
    · rename_i hg
      split at h
      rotate_left
      · cases h
      rename_i T1 hp
      split at h
      rotate_left
      · cases h
      rename_i rs T2 M2 hd
      cases h
      exact key _ _ _ false rs hd rfl ⟨hg, hp, fun _ => ⟨rfl, rfl⟩, by simp⟩

/-! ### What a slot holds -/
def Val (W : Nat → Prop) (u0 : Value) (vf : Nat → Value) (v : Value) : Prop :=
  ((∀ i, ¬ W i) ∧ v = u0) ∨ ∃ i, W i ∧ (∀ j, W j → j ≤ i) ∧ v = vf i
theorem Val.uniq {W : Nat → Prop} {u0 : Value} {vf : Nat → Value} {v v' : Value} (h : Val W u0 vf v) (h' : Val W u0 vf v') : v = v' := by
  rcases h with ⟨h1, h2⟩ | ⟨i, h1, h2, h3⟩ <;> rcases h' with ⟨g1, g2⟩ | ⟨j, g1, g2, g3⟩
  · rw [h2, g2]
  · exact absurd g1 (h1 j)
  · exact absurd h1 (g1 i)
  · have : i = j := Nat.le_antisymm (g2 i h1) (h2 j g1)
    rw [h3, g3, this]
theorem Val.congr {W W' : Nat → Prop} {u0 : Value} {vf : Nat → Value} {v : Value} (h : Val W u0 vf v) (he : ∀ i, W i ↔ W' i) : Val W' u0 vf v := by
  rcases h with ⟨h1, h2⟩ | ⟨i, h1, h2, h3⟩
  · exact .inl ⟨fun i hi => h1 i ((he i).2 hi), h2⟩
  · exact .inr ⟨i, (he i).1 h1, fun j hj => h2 j ((he j).2 hj), h3⟩
def dstOf (ops : List Oper) (i : Nat) : Option Tmp := (ops[i]?).bind (·.dst)
theorem trace {E : Ex} {n : Nat} {ops : List Oper} (hn : n < bigger) {Tf : Nat → Tr Value} {Mf : Nat → AMem} {vf : Nat → Value} {wf : Nat → Bool}
    (hst : ∀ i o, ops[i]? = some o → DStep P E n ops o (Tf i) (Tf (i + 1)) (Mf i) (Mf (i + 1)) (vf i) (wf i)) (t : Nat) :
    ∀ i, i ≤ ops.length → Val (fun j => j < i ∧ dstOf ops j = some t) (slot (Tf 0) t) vf (slot (Tf i) t) := by
  intro i
  induction i with
  | zero => intro _; exact .inl ⟨fun j h => by omega, rfl⟩
  | succ i ih =>
    intro hi
    have ih := ih (by omega)
    have ho : ops[i]? = some ops[i] := List.getElem?_eq_getElem (by omega)
    have hs := hst i _ ho
    have hp := hs.put
    unfold aput at hp
    have hdst : dstOf ops i = ops[i].dst := by unfold dstOf; rw [ho]; rfl
    split at hp
    · rename_i hd
      rw [← Option.some.inj hp]
      refine ih.congr fun j => ?_
      constructor
      · rintro ⟨h1, h2⟩; exact ⟨by omega, h2⟩
      · rintro ⟨h1, h2⟩
        refine ⟨?_, h2⟩
        rcases Nat.lt_or_ge j i with h | h
        · exact h
        · have : j = i := by omega
          subst this
          rw [hdst, hd] at h2
          cases h2
    · rename_i d hd
      obtain ⟨hle, hb⟩ := cond_some hp
      have hle : Nat.succ d ≤ n := by simpa using hle
      rw [← Option.some.inj hb]
      rw [slot_set (by omega)]
      by_cases e : t = d
      · subst e
        rw [if_pos rfl]
        exact .inr ⟨i, ⟨by omega, by rw [hdst, hd]⟩, fun j hj => by omega, rfl⟩
      · rw [if_neg e]
        refine ih.congr fun j => ?_
        constructor
        · rintro ⟨h1, h2⟩; exact ⟨by omega, h2⟩
        · rintro ⟨h1, h2⟩
          refine ⟨?_, h2⟩
          rcases Nat.lt_or_ge j i with h | h
          · exact h
          · have : j = i := by omega
            subst this
            rw [hdst, hd] at h2
            cases h2
            exact absurd rfl e
theorem countP_lt {p q : Nat → Bool} {a : Nat} : ∀ (l : List Nat), (∀ x, q x = true → p x = true) → a ∈ l → p a = true → q a = false → l.countP q < l.countP p := by
  intro l
  induction l with
  | nil => intro _ h; simp at h
  | cons x l ih =>
    intro hpq ha hp hq
    have hmono : l.countP q ≤ l.countP p := List.countP_mono_left fun x _ h => hpq x h
    simp only [List.countP_cons]
    rcases List.mem_cons.1 ha with rfl | ha
    · rw [hp, hq]; simp; omega
    · have := ih hpq ha hp hq
      have : (if q x = true then 1 else 0) ≤ (if p x = true then 1 else 0) := by
        cases hqx : q x with
        | false => simp
        | true => rw [hpq x hqx]; simp
      omega
end
end Go.Sim
namespace Go.Sim
open Go.RowKit
section
variable {P : Program} {N : Prot} {w0 : World} {ρ : Emb} {M : AMem} {w : World}
theorem gd_eq' {T : Tr Value} {a : Act} (ops : List Oper) (o : Oper) (h : ∀ d ∈ looksOf ops o, VR ρ (slot T d) (a.tmps.getD d undef)) : Region.wanted o (yielded ops.toArray a.tmps) = gd ops T o := by
  unfold Region.wanted gd
  cases hg : o.guard with
  | none => rfl
  | some p =>
    obtain ⟨j, want⟩ := p
    simp only [nth_eq]
    unfold yielded
    simp only [List.getElem?_toArray]
    cases hj : ops[j]? with
    | none => rfl
    | some oj =>
      simp only [Option.bind_some]
      cases hd : oj.dst with
      | none => rfl
      | some d =>
        simp only [Option.bind_some]
        have hv := h d (by
          unfold looksOf Oper.looksAt
          rw [hg]
          simp [hj, hd])
        cases ht : a.tmps[d]? with
        | none =>
          have : a.tmps.getD d undef = undef := by simp [Array.getD_eq_getD_getElem?, ht]
          rw [this] at hv
          generalize slot T d = y at hv
          unfold undef at hv
          cases hv with
          | flat _ hf => exact Bool.noConfusion (show false = true from hf)
          | tuple => rfl
        | some u =>
          have : a.tmps.getD d undef = u := by simp [Array.getD_eq_getD_getElem?, ht]
          rw [this] at hv
          generalize slot T d = y at hv
          cases hv with
          | flat _ hf => cases u <;> first | rfl | (rename_i b; cases b <;> cases want <;> rfl)
          | _ => rfl
theorem aenv_R' {T : Tr Value} {a : Act} {ops : List Oper} {o : Oper} (h : ∀ d ∈ looksOf ops o, VR ρ (slot T d) (a.tmps.getD d undef)) (hr : Rel N w0 ρ M w) (ho : okOper o = true) (hrom : romsOk M o = true) :
    ∀ x ∈ o.op.operands, VR ρ (aenv T x) (a.eval x) := by
  unfold okOper at ho
  simp only [Bool.and_eq_true] at ho
  intro x hx
  cases x with
  | tmp t =>
    refine h t ?_
    unfold looksOf Oper.looksAt
    exact List.mem_append_left _ (List.mem_filterMap.2 ⟨.tmp t, Array.mem_toList_iff.2 hx, rfl⟩)
  | const v =>
    have := List.all_eq_true.1 ho.2 _ (Array.mem_toList_iff.2 hx)
    exact VR.of_cells this
  | global g =>
    unfold romsOk at hrom
    split at hrom
    · rename_i hng
      have := List.all_eq_true.1 hng _ (Array.mem_toList_iff.2 hx)
      cases this
    · have := List.all_eq_true.1 hrom _ (Array.mem_toList_iff.2 hx)
      simp only [isRom] at this
      split at this
      · rename_i c hc
        exact .ptr g 0 ⟨g, 0, 0, 0⟩ (hr.glob _ _ hc)
      · cases this
  | func f => exact .func _ _ _ _ _ (fun k e => by cases e) .nil .nil

/-- Which operations are listed. -/
def LD (listed : Array Bool) : Nat → Prop := fun i => listed.getD i false = true
theorem LD_set {listed : Array Bool} {i : Nat} (hi : i < listed.size) (j : Nat) : LD (listed.setIfInBounds i true) j ↔ LD listed j ∨ j = i := by
  unfold LD
  by_cases e : i = j
  · subst e; simp [hi]
  · rw [getD_set_ne false e]
    constructor
    · exact .inl
    · rintro (h | h)
      · exact h
      · exact absurd h.symm e
structure DInv (N : Prot) (w0 : World) (n : Nat) (ops : List Oper) (L : List Info) (u0 : Nat → Value) (Mf : Nat → AMem) (vf : Nat → Value) (ρ0 : Emb) (d0 : List Deferred) (ρ : Emb) (listed : Array Bool) (a : Act) (w : World) : Prop where
  size : listed.size = ops.length
  closed : Closed ops (LD listed)
  mem : ∃ p, p ≤ ops.length ∧ (p = 0 ∨ ∃ y ∈ L, y.loud = true ∧ p = y.idx + 1) ∧ (∀ y ∈ L, y.loud = true → (LD listed y.idx ↔ y.idx < p)) ∧ Rel N w0 ρ (Mf p) w
  tmps : a.tmps.size = n ∧ ∀ t, ∃ v, Val (fun j => LD listed j ∧ dstOf ops j = some t) (u0 t) vf v ∧ VR ρ v (a.tmps.getD t undef)
  defers : a.defers = d0
  le : ρ0.le ρ
theorem stretch {E : Ex} {n : Nat} {ops : List Oper} {Tf : Nat → Tr Value} {Mf : Nat → AMem} {vf : Nat → Value} {wf : Nat → Bool}
    (hst : ∀ i o, ops[i]? = some o → DStep P E n ops o (Tf i) (Tf (i + 1)) (Mf i) (Mf (i + 1)) (vf i) (wf i)) :
    ∀ a b, a ≤ b → b ≤ ops.length → (∀ j o, a ≤ j → j < b → ops[j]? = some o → quietOp o.op = true) → Mf b = Mf a := by
  intro a b
  induction b with
  | zero => intro h _ _; rw [show a = 0 by omega]
  | succ b ih =>
    intro h hb hq
    rcases Nat.lt_or_ge b a with h1 | h1
    · rw [show a = b + 1 by omega]
    · have ho : ops[b]? = some ops[b] := List.getElem?_eq_getElem (by omega)
      rw [← ih h1 (by omega) fun j o h2 h3 h4 => hq j o h2 (by omega) h4]
      have hs := hst b _ ho
      cases hw : wf b with
      | false => exact (hs.off hw).2
      | true =>
        obtain ⟨r, M1, _, _, h3⟩ := hs.on hw
        rw [h3, hq b _ h1 (by omega) ho]
        rfl
theorem stretch' {E : Ex} {n : Nat} {ops : List Oper} {Tf : Nat → Tr Value} {Mf : Nat → AMem} {vf : Nat → Value} {wf : Nat → Bool}
    (hst : ∀ i o, ops[i]? = some o → DStep P E n ops o (Tf i) (Tf (i + 1)) (Mf i) (Mf (i + 1)) (vf i) (wf i)) {a b : Nat} (ha : a ≤ ops.length) (hb : b ≤ ops.length)
    (h : ∀ j o, ops[j]? = some o → quietOp o.op ≠ true → (j < a ↔ j < b)) : Mf a = Mf b := by
  rcases Nat.le_total a b with hab | hab
  · refine (stretch hst a b hab hb fun j o h1 h2 h3 => ?_).symm
    cases hq : quietOp o.op with
    | true => rfl
    | false => have := (h j o h3 (by simp [hq])).2 h2; omega
  · refine stretch hst b a hab ha fun j o h1 h2 h3 => ?_
    cases hq : quietOp o.op with
    | true => rfl
    | false => have := (h j o h3 (by simp [hq])).1 h2; omega

theorem at_L {ops : List Oper} {i : Nat} {o : Oper} (ho : ops[i]? = some o) : ∃ x, (infos ops ops 0 [])[i]? = some x ∧ x.idx = i ∧ x.dst = o.dst ∧ x.looks = looksOf ops o ∧ x.loud = (!quietOp o.op) := by
  obtain ⟨x, h1, h2, h3, h4, h5, _⟩ := infos_at ops ops 0 [] i o ho
  exact ⟨x, h1, by omega, h3, h4, h5⟩
theorem L_at {ops : List Oper} {y : Info} (hy : y ∈ infos ops ops 0 []) : ∃ o, ops[y.idx]? = some o ∧ (infos ops ops 0 [])[y.idx]? = some y ∧ y.loud = (!quietOp o.op) := by
  obtain ⟨j, hj⟩ := List.getElem?_of_mem hy
  have hlt : j < ops.length := by have := (List.getElem?_eq_some_iff.1 hj).1; rw [infos_length] at this; exact this
  have ho : ops[j]? = some ops[j] := List.getElem?_eq_getElem hlt
  obtain ⟨x, h1, h2, _, _, h5⟩ := at_L ho
  rw [hj] at h1
  cases h1
  exact ⟨ops[j], by rw [h2]; exact ho, by rw [h2]; exact hj, h5⟩
theorem inLooks_mem {d : Option Tmp} {t : Tmp} {l : List Tmp} (h : d = some t) (hm : t ∈ l) : inLooks d l = true := by
  subst h
  exact List.any_eq_true.2 ⟨t, hm, Nat.beq_refl t⟩
theorem sameDst_eq {d d' : Option Tmp} {t : Tmp} (h : d = some t) (h' : d' = some t) : sameDst d d' = true := by
  subst h h'
  exact Nat.beq_refl t
theorem dstOf_some {ops : List Oper} {j t : Nat} (h : dstOf ops j = some t) : ∃ o, ops[j]? = some o ∧ o.dst = some t := by
  unfold dstOf at h
  cases ho : ops[j]? with
  | none => rw [ho] at h; cases h
  | some o => rw [ho] at h; exact ⟨o, rfl, h⟩
/-- What the check has found. -/
structure DOk (P : Program) (N : Prot) (w0 : World) (E : Ex) (n : Nat) (ops : List Oper) (Tf : Nat → Tr Value) (Mf : Nat → AMem) (vf : Nat → Value) (wf : Nat → Bool) : Prop where
  pairs : pairsOk (infos ops ops 0 []) = true
  edges : edgesOk ops 0 = true
  loud : ∀ x ∈ infos ops ops 0 [], tight (infos ops ops 0 []) x = true ∨ x.loud = false
  st : ∀ i o, ops[i]? = some o → DStep P E n ops o (Tf i) (Tf (i + 1)) (Mf i) (Mf (i + 1)) (vf i) (wf i)
  again : ∀ i o x, ops[i]? = some o → (infos ops ops 0 [])[i]? = some x → wf i = true → tight (infos ops ops 0 []) x = false → ∀ q, q ≤ ops.length → feasible (infos ops ops 0 []) x q = true →
    ∃ u M1, ostep P E o (Tf i) (Mf q) = some (u, M1) ∧ u.getD undef = vf i
theorem dstep_sound (hz : zerosFine P) {E : Ex} (hE : Sound P N w0 E) {n : Nat} (hn : n < bigger) {ops : List Oper} {Tf : Nat → Tr Value} {Mf : Nat → AMem} {vf : Nat → Value} {wf : Nat → Bool} (hd : DOk P N w0 E n ops Tf Mf vf wf)
    {ρ0 : Emb} {d0 : List Deferred} {listed : Array Bool} {a : Act} {ro' : Option Nat} {k : Nat} {Q : Exit → Act → World → Prop} {K : Act → World → Prop}
    (hi : DInv N w0 n ops (infos ops ops 0 []) (slot (Tf 0)) Mf vf ρ0 d0 ρ listed a w) {i : Nat} (hr : i ∈ Region.ready .any ops.toArray listed)
    (hK : ∀ ρ' a' w', DInv N w0 n ops (infos ops ops 0 []) (slot (Tf 0)) Mf vf ρ0 d0 ρ' (listed.setIfInBounds i true) a' w' → K a' w') : wpOpIn (fen ro') k P ops.toArray Q i K a w := by
  obtain ⟨hun, o, ho', hall⟩ := mem_ready.1 hr
  have ho : ops[i]? = some o := by simpa using ho'
  have hil : i < ops.length := (List.getElem?_eq_some_iff.1 ho).1
  obtain ⟨x, hx, hxi, hxd, hxl, hxq⟩ := at_L ho
  have hxm : x ∈ infos ops ops 0 [] := List.mem_of_getElem? hx
  have hni : ¬ LD listed i := by
    unfold LD
    have : i < listed.size := by rw [hi.size]; exact hil
    simp [this] at hun ⊢
    exact hun
  have hmask : ∀ j, x.mask.testBit j = true → LD listed j := mask_closed hi.closed hd.edges i o x ho hx hall
  have hmask' : ∀ j y, (infos ops ops 0 [])[j]? = some y → LD listed j → y.mask.testBit i = true → False := by
    intro j y hy hj hb
    have hjl : j < ops.length := by have := (List.getElem?_eq_some_iff.1 hy).1; rw [infos_length] at this; exact this
    have hoj : ops[j]? = some ops[j] := List.getElem?_eq_getElem hjl
    exact hni (mask_closed hi.closed hd.edges j ops[j] y hoj hy (fun e he hb => hi.closed j _ hoj hj e he hb) i hb)
  -- what it looks at
  have hA : ∀ t ∈ looksOf ops o, VR ρ (slot (Tf i) t) (a.tmps.getD t undef) := by
    intro t ht
    obtain ⟨v, hv, hvr⟩ := hi.tmps.2 t
    have htr := trace hn hd.st t i (by omega)
    have : Val (fun j => LD listed j ∧ dstOf ops j = some t) (slot (Tf 0) t) vf (slot (Tf i) t) := by
      refine htr.congr fun j => ?_
      constructor
      · rintro ⟨h1, h2⟩
        obtain ⟨oj, hoj, hdj⟩ := dstOf_some h2
        obtain ⟨y, hy, hyi, hyd, _, _⟩ := at_L hoj
        have hp := pairsOk_at _ hd.pairs j i y x h1 hy hx
        unfold pairOk at hp
        rw [inLooks_mem (hyd.trans hdj) (by rw [hxl]; exact ht)] at hp
        simp only [Bool.true_or, cond_true] at hp
        rw [hyi] at hp
        exact ⟨hmask j hp, h2⟩
      · rintro ⟨h1, h2⟩
        refine ⟨?_, h2⟩
        rcases Nat.lt_trichotomy j i with h | h | h
        · exact h
        · subst h; exact absurd h1 hni
        · obtain ⟨oj, hoj, hdj⟩ := dstOf_some h2
          obtain ⟨y, hy, hyi, hyd, _, _⟩ := at_L hoj
          have hp := pairsOk_at _ hd.pairs i j x y h hx hy
          unfold pairOk at hp
          rw [inLooks_mem (hyd.trans hdj) (by rw [hxl]; exact ht)] at hp
          simp only [Bool.true_or, Bool.or_true, cond_true] at hp
          rw [hxi] at hp
          exact (hmask' j y hy h1 hp).elim
    rw [hv.uniq this] at hvr
    exact hvr
  obtain ⟨p, hpm, hpc, hpl, hrel⟩ := hi.mem
  have hlt : tight (infos ops ops 0 []) x = true → ∀ y ∈ infos ops ops 0 [], y.loud = true → (LD listed y.idx ↔ y.idx < i) := by
    intro ht y hy hyl
    have h1 := List.all_eq_true.1 ht y hy
    rw [hyl, hxi] at h1
    simp only [cond_true] at h1
    obtain ⟨oy, hoy, hyat, _⟩ := L_at hy
    cases hb : Nat.beq y.idx i with
    | true =>
      have := Nat.eq_of_beq_eq_true hb
      rw [this]
      constructor
      · intro h; exact absurd h hni
      · intro h; omega
    | false =>
      have hne : y.idx ≠ i := fun e => by rw [e, Nat.beq_refl] at hb; cases hb
      rw [hb] at h1
      simp only [cond_false] at h1
      cases hb2 : Nat.ble (Nat.succ y.idx) i with
      | true =>
        rw [hb2] at h1
        simp only [cond_true] at h1
        have : Nat.succ y.idx ≤ i := by simpa using hb2
        exact ⟨fun _ => this, fun _ => hmask _ h1⟩
      | false =>
        rw [hb2] at h1
        simp only [cond_false] at h1
        have : ¬ Nat.succ y.idx ≤ i := by intro h; rw [Nat.ble_eq_true_of_le h] at hb2; cases hb2
        constructor
        · intro h; exact (hmask' _ y hyat h h1).elim
        · intro h; exact absurd h this
  have hMi : tight (infos ops ops 0 []) x = true → Mf p = Mf i := by
    intro ht
    refine stretch' hd.st hpm (by omega) fun j oj hoj hq => ?_
    obtain ⟨y, hy, hyi, _, _, hyq⟩ := at_L hoj
    have hyl : y.loud = true := by rw [hyq]; simp [hq]
    have hym := List.mem_of_getElem? hy
    have h1 := hpl y hym hyl
    have h2 := hlt ht y hym hyl
    rw [hyi] at h1 h2
    rw [← h1, h2]
  have hDset : ∀ j, LD (listed.setIfInBounds i true) j ↔ LD listed j ∨ j = i := LD_set (by rw [hi.size]; exact hil)
  -- what holds then
  have hnew : ∀ (ρ' : Emb) (u : Value) (w' : World), ρ.le ρ' → VR ρ' (vf i) u →
      (∃ p, p ≤ ops.length ∧ (p = 0 ∨ ∃ y ∈ infos ops ops 0 [], y.loud = true ∧ p = y.idx + 1) ∧ (∀ y ∈ infos ops ops 0 [], y.loud = true → (LD (listed.setIfInBounds i true) y.idx ↔ y.idx < p)) ∧ Rel N w0 ρ' (Mf p) w') →
      DInv N w0 n ops (infos ops ops 0 []) (slot (Tf 0)) Mf vf ρ0 d0 ρ' (listed.setIfInBounds i true) (a.put o.dst u) w' := by
    intro ρ' u w' hle hu hm
    refine ⟨by simp [hi.size], ?_, hm, ⟨?_, ?_⟩, by rw [put_defers]; exact hi.defers, hi.le.trans hle⟩
    · intro j oj hoj hj e he hb
      rw [hDset]
      rw [hDset] at hj
      rcases hj with hj | rfl
      · exact .inl (hi.closed j oj hoj hj e he hb)
      · rw [ho] at hoj
        cases hoj
        exact .inl (hall e he hb)
    · cases o.dst with
      | none => exact hi.tmps.1
      | some d => simp [Act.put, hi.tmps.1]
    · intro t
      obtain ⟨v, hv, hvr⟩ := hi.tmps.2 t
      have hdi : dstOf ops i = o.dst := by unfold dstOf; rw [ho]; rfl
      by_cases e : o.dst = some t
      · refine ⟨vf i, .inr ⟨i, ⟨(hDset i).2 (.inr rfl), by rw [hdi, e]⟩, ?_, rfl⟩, ?_⟩
        · rintro j ⟨h1, h2⟩
          rcases (hDset j).1 h1 with h1 | rfl
          · rcases Nat.lt_or_ge i j with h | h
            · obtain ⟨oj, hoj, hdj⟩ := dstOf_some h2
              obtain ⟨y, hy, hyi, hyd, _, _⟩ := at_L hoj
              have hp := pairsOk_at _ hd.pairs i j x y h hx hy
              unfold pairOk at hp
              rw [sameDst_eq (hxd.trans e) (hyd.trans hdj)] at hp
              simp only [Bool.true_or, Bool.or_true, cond_true] at hp
              rw [hxi] at hp
              exact (hmask' j y hy h1 hp).elim
            · exact h
          · exact Nat.le_refl _
        · have hs := hd.st i o ho
          have hput := hs.put
          unfold aput at hput
          rw [e] at hput
          obtain ⟨hb, _⟩ := cond_some hput
          have hb : Nat.succ t ≤ n := by simpa using hb
          rw [e]
          show VR ρ' _ ((a.tmps.setIfInBounds t u).getD t undef)
          rw [getD_set, if_pos ⟨rfl, by rw [hi.tmps.1]; omega⟩]
          exact hu
      · refine ⟨v, hv.congr fun j => ?_, ?_⟩
        · constructor
          · rintro ⟨h1, h2⟩; exact ⟨(hDset j).2 (.inl h1), h2⟩
          · rintro ⟨h1, h2⟩
            rcases (hDset j).1 h1 with h1 | rfl
            · exact ⟨h1, h2⟩
            · rw [hdi] at h2; exact absurd h2 e
        · have : (a.put o.dst u).tmps.getD t undef = a.tmps.getD t undef := by
            cases hdst : o.dst with
            | none => rfl
            | some d =>
              show (a.tmps.setIfInBounds d u).getD t undef = _
              rw [getD_set, if_neg]
              rintro ⟨rfl, _⟩
              exact e hdst
          rw [this]
          exact hvr.mono hle
  -- memory, after a loud one, after a quiet one
  have hml : ∀ ρ' w', tight (infos ops ops 0 []) x = true → x.loud = true → Rel N w0 ρ' (Mf (i + 1)) w' →
      ∃ p, p ≤ ops.length ∧ (p = 0 ∨ ∃ y ∈ infos ops ops 0 [], y.loud = true ∧ p = y.idx + 1) ∧ (∀ y ∈ infos ops ops 0 [], y.loud = true → (LD (listed.setIfInBounds i true) y.idx ↔ y.idx < p)) ∧ Rel N w0 ρ' (Mf p) w' := by
    intro ρ' w' ht hl hrel'
    refine ⟨i + 1, by omega, .inr ⟨x, hxm, hl, by rw [hxi]⟩, fun y hy hyl => ?_, hrel'⟩
    rw [hDset, hlt ht y hy hyl]
    omega
  have hmq : ∀ ρ' w', x.loud = false → Rel N w0 ρ' (Mf p) w' →
      ∃ p, p ≤ ops.length ∧ (p = 0 ∨ ∃ y ∈ infos ops ops 0 [], y.loud = true ∧ p = y.idx + 1) ∧ (∀ y ∈ infos ops ops 0 [], y.loud = true → (LD (listed.setIfInBounds i true) y.idx ↔ y.idx < p)) ∧ Rel N w0 ρ' (Mf p) w' := by
    intro ρ' w' hl hrel'
    refine ⟨p, hpm, hpc, fun y hy hyl => ?_, hrel'⟩
    rw [hDset]
    have hne : y.idx ≠ i := by
      intro e
      obtain ⟨oy, _, hyat, _⟩ := L_at hy
      rw [e, hx] at hyat
      cases hyat
      rw [hl] at hyl
      cases hyl
    constructor
    · rintro (h | h)
      · exact (hpl y hy hyl).1 h
      · exact absurd h hne
    · intro h; exact .inl ((hpl y hy hyl).2 h)
  have hs := hd.st i o ho
  unfold wpOpIn
  simp only [ho']
  rw [gd_eq' ops o hA, hs.wd]
  cases hw : wf i with
  | false =>
    rw [if_neg (by simp)]
    obtain ⟨hv, hM⟩ := hs.off hw
    refine ⟨fun _ _ => trivial, hK ρ _ w (hnew ρ undef w (Emb.le.refl _) (by rw [hv]; exact undefR) ?_)⟩
    cases hl : x.loud with
    | true =>
      have ht : tight (infos ops ops 0 []) x = true := by rcases hd.loud x hxm with h | h; exact h; rw [h] at hl; cases hl
      exact hml ρ w ht hl (by rw [hM, ← hMi ht]; exact hrel)
    | false => exact hmq ρ w hl hrel
  | true =>
    rw [if_pos rfl]
    cases ht : tight (infos ops ops 0 []) x with
    | true =>
      obtain ⟨r, M1, h1, h2, h3⟩ := hs.on hw
      rw [← hMi ht] at h1
      obtain ⟨hok, hrom⟩ := ostep_ok h1
      refine ostep_sound hz hE h1 hrel (aenv_R' hA hrel hok hrom) ?_
      intro ρ' r' w' hle hv hrel' hq
      refine hK ρ' _ w' (hnew ρ' _ w' hle (by rw [h2]; exact hv.getD) ?_)
      cases hqo : quietOp o.op with
      | true =>
        obtain ⟨e1, e2, e3⟩ := hq hqo
        exact hmq ρ' w' (by rw [hxq, hqo]; rfl) (by rw [← e1]; exact hrel')
      | false =>
        rw [hqo] at h3
        simp only [cond_false] at h3
        exact hml ρ' w' ht (by rw [hxq, hqo]; rfl) (by rw [h3]; exact hrel')
    | false =>
      have hl : x.loud = false := by rcases hd.loud x hxm with h | h; rw [h] at ht; cases ht; exact h
      have hfe : feasible (infos ops ops 0 []) x p = true := by
        unfold feasible
        rw [Bool.and_eq_true]
        constructor
        · rcases hpc with rfl | ⟨y, hy, hyl, rfl⟩
          · rfl
          · rw [Bool.or_eq_true]
            exact .inr (List.any_eq_true.2 ⟨y, hy, by rw [hyl, Bool.true_and]; exact Nat.beq_refl _⟩)
        · refine List.all_eq_true.2 fun y hy => ?_
          cases hyl : y.loud with
          | false => rfl
          | true =>
            simp only [cond_true, Bool.and_eq_true]
            obtain ⟨oy, _, hyat, _⟩ := L_at hy
            constructor
            · cases hb : x.mask.testBit y.idx with
              | false => rfl
              | true => exact Nat.ble_eq_true_of_le ((hpl y hy hyl).1 (hmask _ hb))
            · cases hb : y.mask.testBit x.idx with
              | false => rfl
              | true =>
                rw [hxi] at hb
                have : ¬ y.idx < p := fun h => hmask' _ y hyat ((hpl y hy hyl).2 h) hb
                simp
                omega
      obtain ⟨u, M1, h1, h2⟩ := hd.again i o x ho hx hw ht p hpm hfe
      obtain ⟨hok, hrom⟩ := ostep_ok h1
      refine ostep_sound hz hE h1 hrel (aenv_R' hA hrel hok hrom) ?_
      intro ρ' r' w' hle hv hrel' hq
      refine hK ρ' _ w' (hnew ρ' _ w' hle (by rw [← h2]; exact hv.getD) ?_)
      have hqo : quietOp o.op = true := by rw [hl] at hxq; cases hq2 : quietOp o.op with | true => rfl | false => rw [hq2] at hxq; cases hxq
      obtain ⟨e1, e2, e3⟩ := hq hqo
      exact hmq ρ' w' hl (by rw [← e1]; exact hrel')
theorem dany_sound (hz : zerosFine P) {E : Ex} (hE : Sound P N w0 E) {n : Nat} (hn : n < bigger) {ops : List Oper} {Tf : Nat → Tr Value} {Mf : Nat → AMem} {vf : Nat → Value} {wf : Nat → Bool} (hd : DOk P N w0 E n ops Tf Mf vf wf)
    {ρ0 : Emb} {d0 : List Deferred} {ro' : Option Nat} {k : Nat} {Q : Exit → Act → World → Prop}
    (hQ : ∀ ρ' a' w', ρ0.le ρ' → Rel N w0 ρ' (Mf ops.length) w' → TR ρ' n (Tf ops.length) a'.tmps → a'.defers = d0 → Q .normal a' w') :
    ∀ (fuel : Nat) (listed : Array Bool) (ρ : Emb) (a : Act) (w : World), DInv N w0 n ops (infos ops ops 0 []) (slot (Tf 0)) Mf vf ρ0 d0 ρ listed a w →
      (List.range ops.length).countP (fun i => !(listed.getD i false)) ≤ fuel → wpAnyIn (fen ro') k P .any ops.toArray Q fuel listed a w := by
  intro fuel
  have hend : ∀ (listed : Array Bool) (ρ : Emb) (a : Act) (w : World), DInv N w0 n ops (infos ops ops 0 []) (slot (Tf 0)) Mf vf ρ0 d0 ρ listed a w → (∀ i, i < ops.length → LD listed i) → Q .normal a w := by
    intro listed ρ a w hi hall
    obtain ⟨p, hpm, hpc, hpl, hrel⟩ := hi.mem
    have hM : Mf p = Mf ops.length := by
      refine stretch' hd.st hpm (Nat.le_refl _) fun j oj hoj hq => ?_
      obtain ⟨y, hy, hyi, _, _, hyq⟩ := at_L hoj
      have hyl : y.loud = true := by rw [hyq]; simp [hq]
      have h1 := hpl y (List.mem_of_getElem? hy) hyl
      rw [hyi] at h1
      have hj : j < ops.length := (List.getElem?_eq_some_iff.1 hoj).1
      exact ⟨fun _ => hj, fun _ => h1.1 (hall j hj)⟩
    refine hQ ρ a w hi.le (by rw [← hM]; exact hrel) ⟨hi.tmps.1, hn, fun t => ?_⟩ hi.defers
    obtain ⟨v, hv, hvr⟩ := hi.tmps.2 t
    have htr := trace hn hd.st t ops.length (Nat.le_refl _)
    have : Val (fun j => LD listed j ∧ dstOf ops j = some t) (slot (Tf 0) t) vf (slot (Tf ops.length) t) := by
      refine htr.congr fun j => ?_
      constructor
      · rintro ⟨h1, h2⟩; exact ⟨hall j h1, h2⟩
      · rintro ⟨h1, h2⟩
        obtain ⟨oj, hoj, _⟩ := dstOf_some h2
        exact ⟨(List.getElem?_eq_some_iff.1 hoj).1, h2⟩
    rw [hv.uniq this] at hvr
    exact hvr
  have hnone : ∀ (listed : Array Bool), listed.size = ops.length → Region.ready .any ops.toArray listed = [] → ∀ i, i < ops.length → LD listed i := by
    intro listed hsz hr i
    induction i using Nat.strongRecOn with
    | _ i ih =>
      intro hi
      cases hl : listed.getD i false with
      | true => exact hl
      | false =>
        have ho : ops[i]? = some ops[i] := List.getElem?_eq_getElem hi
        have : i ∈ Region.ready .any ops.toArray listed := mem_ready.2 ⟨by
          have : i < listed.size := by rw [hsz]; exact hi
          simp [this] at hl ⊢
          exact hl, ops[i], by simp [hi], fun e he hb => by
            have := edgesOk_at ops 0 hd.edges i _ ho e he hb
            exact ih e.on (by omega) (by omega)⟩
        rw [hr] at this
        cases this
  induction fuel with
  | zero =>
    intro listed ρ a w hi hc
    have hall : ∀ i, i < ops.length → LD listed i := by
      intro i hil
      have h0 := List.countP_eq_zero.1 (Nat.le_zero.1 hc) i (List.mem_range.2 hil)
      unfold LD
      simpa using h0
    refine ⟨?_, hend listed ρ a w hi hall⟩
    rw [List.eq_nil_iff_forall_not_mem]
    intro j hj
    obtain ⟨hun, o, ho', _⟩ := mem_ready.1 hj
    have hjl : j < ops.length := by have := (Array.getElem?_eq_some_iff.1 ho').1; simpa using this
    have h1 := hall j hjl
    unfold LD at h1
    have : j < listed.size := by rw [hi.size]; exact hjl
    simp [this] at hun h1
    rw [hun] at h1
    cases h1
  | succ fuel ih =>
    intro listed ρ a w hi hc
    refine ⟨fun hr => hend listed ρ a w hi (hnone listed hi.size hr), fun i hr => ?_⟩
    refine dstep_sound hz hE hn hd hi hr fun ρ' a' w' hi' => ih _ ρ' a' w' hi' ?_
    obtain ⟨hun, o, ho', _⟩ := mem_ready.1 hr
    have hil : i < ops.length := by have := (Array.getElem?_eq_some_iff.1 ho').1; simpa using this
    have hsz : i < listed.size := by rw [hi.size]; exact hil
    refine Nat.le_of_lt_succ (Nat.lt_of_lt_of_le (countP_lt (a := i) _ ?_ (List.mem_range.2 hil) ?_ ?_) hc)
    · intro y hy
      simp only [Bool.not_eq_true'] at hy ⊢
      cases h : listed.getD y false with
      | false => rfl
      | true => rw [getD_set_true h] at hy; cases hy
    · simp [hsz] at hun ⊢; exact hun
    · simp [hsz]
theorem aregionD_sound (hz : zerosFine P) (hm : P.follows .mixedOrders = true) {E : Ex} (hE : Sound P N w0 E) {n : Nat} {ops : Array Oper} {id : Nat} {ro' : Option Nat} {k : Nat} {Q : Exit → Act → World → Prop} {T T' : Tr Value} {M' : AMem} {a : Act}
    (h : aregionD P E n ops.toList T M = some (T', M')) (hr : Rel N w0 ρ M w) (ht : TR ρ n T a.tmps)
    (hQ : ∀ ρ' a' w', ρ.le ρ' → Rel N w0 ρ' M' w' → TR ρ' n T' a'.tmps → a'.defers = a.defers → Q .normal a' w') : (Code.region id ops true).wpIn (fen ro') k P Q a w := by
  refine wpIn_region_any hm ?_
  unfold aregionD at h
  split at h
  rotate_left
  · cases h
  rename_i pl hpl
  split at h
  rotate_left
  · cases h
  rename_i recs T1 M1 hdr
  obtain ⟨hck, hb⟩ := cond_some h
  cases hb
  unfold static staticOf at hpl
  obtain ⟨hst, hpl⟩ := cond_some hpl
  simp only [Bool.and_eq_true] at hst
  obtain ⟨hpairs, hedges, hloud⟩ := hst
  obtain ⟨Tf, Mf, vf, wf, h1, h2, h3, h4, h5, h6⟩ := drun_spec _ _ _ _ _ _ hdr
  have hd : DOk P N w0 E n ops.toList Tf Mf vf wf := by
    refine ⟨hpairs, hedges, ?_, fun i o ho => (h6 i o ho).2, ?_⟩
    · intro x hx
      have := List.all_eq_true.1 hloud x hx
      rw [Bool.or_eq_true, Bool.not_eq_true'] at this
      exact this
    · intro i o x ho hx hw ht q hq hfe
      obtain ⟨h7, h8⟩ := h6 i o ho
      have hpi : pl[i]? = some (planOf (infos ops.toList ops.toList 0 []) ops.toList.length x) := by
        rw [← Option.some.inj hpl, List.getElem?_map, hx]
        rfl
      have hdk := dchk_at pl ops.toList recs hck i _ o _ hpi ho h7 hw
      unfold dck at hdk
      have hqm : q ∈ planOf (infos ops.toList ops.toList 0 []) ops.toList.length x := by
        unfold planOf
        rw [ht]
        exact List.mem_filter.2 ⟨List.mem_range.2 (by omega), hfe⟩
      have hq1 := List.all_eq_true.1 hdk q hqm
      rw [nth_eq] at hq1
      have hmem : (recs.map (·.M) ++ [M'])[q]? = some (Mf q) := by
        rcases Nat.lt_or_ge q ops.toList.length with hlt | hge
        · obtain ⟨h9, _⟩ := h6 q _ (List.getElem?_eq_getElem hlt)
          rw [List.getElem?_append_left (by simp; omega), List.getElem?_map, h9]
          rfl
        · have : q = ops.toList.length := by omega
          rw [List.getElem?_append_right (by simp; omega)]
          rw [List.length_map, h5, this, Nat.sub_self, h4]
          rfl
      rw [hmem] at hq1
      simp only at hq1
      split at hq1
      · rename_i u M2 hs
        exact ⟨u, M2, hs, veq_eq hq1⟩
      · cases hq1
  have := dany_sound hz hE ht.2.1 hd (ρ0 := ρ) (d0 := a.defers) (ro' := ro') (k := k) (Q := Q) (by rw [h3, h4]; exact hQ) ops.size (Array.replicate ops.size false) ρ a w.drew ?_ ?_
  · simpa using this
  · refine ⟨by simp, ?_, ⟨0, by omega, .inl rfl, ?_, by rw [h2]; exact hr.drew⟩, ⟨ht.1, fun t => ⟨slot (Tf 0) t, .inl ⟨?_, rfl⟩, by rw [h1]; exact ht.2.2 t⟩⟩, rfl, Emb.le.refl _⟩
    · intro i o _ hl
      unfold LD at hl
      simp [Array.getD_eq_getD_getElem?, Array.getElem?_replicate] at hl
      split at hl <;> simp at hl
    · intro y _ _
      unfold LD
      constructor
      · intro hl
        simp [Array.getD_eq_getD_getElem?, Array.getElem?_replicate] at hl
        split at hl <;> simp at hl
      · intro h; omega
    · rintro i ⟨hl, _⟩
      unfold LD at hl
      simp [Array.getD_eq_getD_getElem?, Array.getElem?_replicate] at hl
      split at hl <;> simp at hl
  · refine Nat.le_trans List.countP_le_length ?_
    simp
end
end Go.Sim
namespace Go.Sim
open Go.RowKit
section
variable {P : Program} {N : Prot} {w0 : World} {ρ : Emb} {M : AMem} {w : World}

/-! ### Running code -/
abbrev Out := Option (AEx × Tr Value × List Nat × AMem)
noncomputable def limC (r : Out) : Out := r
def gok : Operand → Bool
  | .tmp _ => true
  | .func _ => true
  | _ => false
noncomputable def argsT (l : List Value) : Nat → Tr Value → Tr Value :=
  List.rec (motive := fun _ => Nat → Tr Value → Tr Value) (fun _ T => T) (fun v _ ih i T => ih (Nat.succ i) (Tr.set v T (Nat.succ i))) l
theorem argsT_nil (i : Nat) (T : Tr Value) : argsT [] i T = T := rfl
theorem argsT_cons (v : Value) (l : List Value) (i : Nat) (T : Tr Value) : argsT (v :: l) i T = argsT l (i + 1) (Tr.set v T (Nat.succ i)) := rfl
noncomputable def killD (D : List Nat) : AMem → Option AMem :=
  List.rec (motive := fun _ => AMem → Option AMem) (fun M => some M)
    (fun d _ ih M => match M.get d with
      | some (.obj (.deferred (some []))) => ih (M.set d .dead)
      | _ => none) D
theorem killD_cons (d : Nat) (D : List Nat) (M : AMem) : killD (d :: D) M = match M.get d with
      | some (.obj (.deferred (some []))) => killD D (M.set d .dead)
      | _ => none := rfl
noncomputable def aresl (P : Program) (T : Tr Value) (M : AMem) (l : List ResultVar) : Option (List Value) :=
  List.rec (motive := fun _ => Option (List Value)) (some [])
    (fun r _ ih => match r with
      | .tmp t => match ih with
        | some vs => some (slot T t :: vs)
        | none => none
      | .cell a t => match slot T a with
        | .pointer (some p) => match arun P (Go.loadVar t p) M with
          | some (v, M1) => match Nat.ble (Nat.succ M1.nxt) bigger, ih with
            | true, some vs => some (v :: vs)
            | _, _ => none
          | none => none
        | _ => none) l
def pack : List Value → Value
  | [v] => v
  | vs => .tuple vs.toArray
noncomputable def aresults (P : Program) (fn : Func) (T : Tr Value) (M : AMem) : Option Value :=
  match aresl P T M fn.results.toList with
  | some vs => some (pack vs)
  | none => none
noncomputable def setParams (n : Nat) : List (Tmp × Value) → Tr Value → Option (Tr Value)
  | [], T => some T
  | (t, v) :: r, T => match aput n (some t) v T with
    | some T' => setParams n r T'
    | none => none
noncomputable def acallF (P : Program) (E : Ex) (f : FuncId) (args : Array Value) (M : AMem) : Option (Value × AMem) :=
  match P.funcs[f]? with
  | some fn => match fn.body with
    | some c => bif Nat.ble (Nat.succ (args.toList.length + (fn.ntmps - args.toList.length))) bigger then
        match E.code (args.toList.length + (fn.ntmps - args.toList.length)) none c (argsT args.toList 0 .nil) [] M with
        | some (.normal, T', D', M') => match killD D' M' with
          | some M2 => match aresults P fn T' M2 with
            | some v => some (v, M2)
            | none => none
          | none => none
        | some (.ret, T', D', M') => match killD D' M' with
          | some M2 => match aresults P fn T' M2 with
            | some v => some (v, M2)
            | none => none
          | none => none
        | _ => none
      else none
    | none => none
  | none => none
noncomputable def aendRound (b : Nat) (e : AEx) (M : AMem) : Option (Value × AMem) :=
  match M.get b with
  | some (.loop l) => match e with
    | .normal => some (.bool true, M.set b (.loop { l with st := .ready, pend := none }))
    | .ret => some (.bool false, M.set b (.loop { l with st := .done, pend := some .ret }))
    | .exit id => some (.bool false, M.set b (.loop { l with st := .done, pend := some (.exit id) }))
  | _ => none
noncomputable def aroundF (E : Ex) (b : Nat) (args : Array Value) (M : AMem) : Option (Value × AMem) :=
  match M.get b with
  | some (.loop l) => bif Nat.beq args.toList.length l.params.toList.length then
      match setParams l.n (l.params.toList.zip args.toList) l.tmps with
      | some T => match E.code l.n (some b) l.assign T [] M with
        | some (.normal, T1, D1, M1) => match M1.get b with
          | some (.loop l1) => match l1.st with
            | .ready => match E.code l.n (some b) l.body T1 D1 (M1.set b (.loop { l1 with st := .busy })) with
              | some (e, _, _, M3) => aendRound b e M3
              | none => none
            | _ => none
          | _ => none
        | _ => none
      | none => none
    else none
  | _ => none
/-- What is laid for a range over a function. -/
noncomputable def aenter (ro : Option Nat) (n : Nat) (ps : Array Tmp) (assign body : Code) (T : Tr Value) (D : List Nat) (M : AMem) : Option (List Nat × Nat × AMem) :=
  bif Nat.ble (Nat.succ (Nat.succ (Nat.succ M.nxt))) bigger then
    match ro with
    | none => some (M.nxt :: D, Nat.succ M.nxt, (M.alloc (.obj (.deferred (some [])))).alloc (.loop ⟨.ready, none, n, T, ps, assign, body, M.nxt⟩))
    | some b => match M.get b with
      | some (.loop l) => some (D, M.nxt, M.alloc (.loop ⟨.ready, none, n, T, ps, assign, body, l.defers⟩))
      | _ => none
  else none
noncomputable def aleave (b : Nat) (M : AMem) : Option (Option Code × AMem) :=
  match M.get b with
  | some (.loop l) => match l.st with
    | .busy => none
    | _ => some (l.pend, M.set b .dead)
  | _ => none
noncomputable def arangeFunc (P : Program) (E : Ex) (n : Nat) (ro : Option Nat) (g : Operand) (ps : Array Tmp) (assign body : Code) (T : Tr Value) (D : List Nat) (M : AMem) : Out :=
  match gok g with
  | true => match aenter ro n ps assign body T D M with
    | some (D1, lb, M1) => match aenv T g with
      | .func (.func f) first cap => match okFunc P f with
        | true => match E.call f (first ++ #[.func (.yield lb) #[] #[]] ++ cap) M1 with
          | some (_, M2) => match aleave lb M2 with
            | some (none, M3) => some (.normal, T, D1, M3)
            | some (some c, M3) => E.code n ro c T D1 M3
            | none => none
          | none => none
        | false => none
      | _ => none
    | none => none
  | false => none
noncomputable def acond (T : Tr Value) (c : Operand) : Option Bool :=
  match gok c with
  | true => match aenv T c with
    | .bool b => some b
    | _ => none
  | false => match c with
    | .const (.bool b) => some b
    | _ => none
noncomputable def acodeF (P : Program) (E : Ex) (n : Nat) (ro : Option Nat) (c : Code) (T : Tr Value) (D : List Nat) (M : AMem) : Out :=
  match c with
  | .skip => some (.normal, T, D, M)
  | .label _ => some (.normal, T, D, M)
  | .region _ ops draw => match (bif draw then aregionD P E n ops.toList T M else aops P E n ops.toList ops.toList T M) with
    | some (T', M') => some (.normal, T', D, M')
    | none => none
  | .seq a b => match E.code n ro a T D M with
    | some (.normal, T', D', M') => E.code n ro b T' D' M'
    | r => r
  | .cond c a b => match acond T c with
    | some true => E.code n ro a T D M
    | some false => E.code n ro b T D M
    | none => none
  | .block id body => match E.code n ro body T D M with
    | some (.exit id', T', D', M') => bif Nat.beq id' id then some (.normal, T', D', M') else some (.exit id', T', D', M')
    | r => r
  | .loop body => match E.code n ro body T D M with
    | some (.normal, T', D', M') => E.code n ro (.loop body) T' D' M'
    | r => r
  | .scope body => E.code n ro body T D M
  | .exit id => some (.exit id, T, D, M)
  | .ret => some (.ret, T, D, M)
  | .rangeFunc g ps assign body => arangeFunc P E n ro g ps assign body T D M
  | _ => none
def Ex.none : Ex := ⟨fun _ _ _ _ _ _ => .none, fun _ _ _ => .none, fun _ _ _ => .none⟩
noncomputable def Ex.next (P : Program) (E : Ex) : Ex := ⟨acodeF P E, acallF P E, aroundF E⟩
noncomputable def exec (P : Program) (k : Nat) : Ex := Nat.rec (motive := fun _ => Ex) Ex.none (fun _ E => Ex.next P E) k

theorem killD_sound : ∀ (D : List Nat) (X : List Deferred) (M M' : AMem) (w : World), killD D M = some M' → Rel N w0 ρ M w → DR ρ D X → ∀ {fn : Func} {tmps : Array Value} {F : Fence} {k : Nat} {R : Ending → World → Prop},
    (∀ w', Rel N w0 ρ M' w' → LeavesInM F k P fn tmps R [] .returning w') → LeavesInM F k P fn tmps R X .returning w := by
  intro D
  induction D with
  | nil =>
    intro X M M' w h hr hd fn tmps F k R hQ
    cases X with
    | nil => cases h; exact hQ w hr
    | cons _ _ => exact hd.elim
  | cons d D ih =>
    intro X M M' w h hr hd fn tmps F k R hQ
    cases X with
    | nil => exact hd.elim
    | cons x X =>
      rw [killD_cons] at h
      split at h
      rotate_left
      · cases h
      rename_i hg
      obtain ⟨⟨B, hB, rfl⟩, hd'⟩ := hd
      obtain ⟨l, hl, ⟨h0, o', h1, h2⟩, _⟩ := hr.obj _ _ hg rfl
      cases hB.symm.trans hl
      simp only [ObjR] at h2
      subst h2
      refine ⟨by simp, .inl ⟨B, w.putObj B (.deferred none), rfl, run_takeDeferred h1, ?_⟩⟩
      refine ih X _ M' _ h (hr.turn hg rfl rfl hB .dead rfl World.putObj_size rfl rfl rfl (fun k hk => World.putObj_heap_other hk) (fun h => by cases h)) hd' hQ
theorem argsT_slot : ∀ (l : List Value) (i : Nat) (T : Tr Value) (t : Nat), i + l.length < bigger → slot (argsT l i T) t = if i ≤ t ∧ t < i + l.length then (l[t - i]?).getD undef else slot T t := by
  intro l
  induction l with
  | nil =>
    intro i T t _
    rw [argsT_nil, if_neg]
    simp
  | cons v l ih =>
    intro i T t h
    simp only [List.length_cons] at h
    rw [argsT_cons, ih (i + 1) _ t (by omega), slot_set (by omega)]
    by_cases h1 : t = i
    · subst h1
      rw [if_neg (by omega), if_pos rfl, if_pos (by simp)]
      simp
    · rw [if_neg h1]
      by_cases h2 : i + 1 ≤ t ∧ t < i + 1 + l.length
      · rw [if_pos h2, if_pos (by simp; omega)]
        obtain ⟨j, hj⟩ : ∃ j, t - i = j + 1 := ⟨t - i - 1, by omega⟩
        rw [hj, show t - (i + 1) = j by omega]
        simp
      · rw [if_neg h2, if_neg (by simp; omega)]
theorem args_TR {args args' : Array Value} (h : VRs ρ args.toList args'.toList) (m : Nat) (hb : args.toList.length + (m - args.toList.length) < bigger) :
    TR ρ (args.toList.length + (m - args.toList.length)) (argsT args.toList 0 .nil) (args' ++ Array.replicate (m - args'.size) undef) := by
  have hlen := h.length
  simp only [Array.length_toList] at hlen hb ⊢
  refine ⟨by simp [hlen], hb, fun t => ?_⟩
  rw [argsT_slot _ _ _ _ (by simp; omega)]
  simp only [Nat.zero_le, true_and, Nat.zero_add, Nat.sub_zero, Array.length_toList]
  by_cases ht : t < args.size
  · rw [if_pos ht]
    have hv : args.toList[t]? = some args[t] := by simp [ht]
    obtain ⟨v', h1, h2⟩ := h.get t _ hv
    rw [hv]
    have : (args' ++ Array.replicate (m - args'.size) undef).getD t undef = v' := by
      rw [Array.getD_eq_getD_getElem?, Array.getElem?_append_left (by omega)]
      simp only [Array.getElem?_toList] at h1
      rw [h1]
      rfl
    rw [this]
    exact h2
  · rw [if_neg ht]
    have : (args' ++ Array.replicate (m - args'.size) undef).getD t undef = undef := by
      rw [Array.getD_eq_getD_getElem?, Array.getElem?_append_right (by omega)]
      simp only [Array.getElem?_replicate]
      split <;> rfl
    rw [this]
    exact undefR
def readRes (tmps : Array Value) : ResultVar → Sem Value
  | .tmp t => pure (tmps.getD t undef)
  | .cell a t => do Go.loadVar t (← asAddr (tmps.getD a undef))
theorem aresl_cons (r : ResultVar) (l : List ResultVar) (T : Tr Value) (M : AMem) : aresl P T M (r :: l) = match r with
      | .tmp t => match aresl P T M l with
        | some vs => some (slot T t :: vs)
        | none => none
      | .cell a t => match slot T a with
        | .pointer (some p) => match arun P (Go.loadVar t p) M with
          | some (v, M1) => match Nat.ble (Nat.succ M1.nxt) bigger, aresl P T M l with
            | true, some vs => some (v :: vs)
            | _, _ => none
          | none => none
        | _ => none := rfl
theorem aresl_sound {n : Nat} {T : Tr Value} {tmps : Array Value} (hr : Rel N w0 ρ M w) (ht : TR ρ n T tmps) : ∀ (l : List ResultVar) (vs : List Value), aresl P T M l = some vs →
    ∃ vs', VRs ρ vs vs' ∧ (l.mapM (readRes tmps)).run P w = .ok vs' w := by
  intro l
  induction l with
  | nil => intro vs h; cases h; exact ⟨[], .nil, rfl⟩
  | cons r l ih =>
    intro vs h
    have key : ∀ (v v' : Value) (vs1 : List Value), VR ρ v v' → vs = v :: vs1 → aresl P T M l = some vs1 → (readRes tmps r).run P w = .ok v' w →
        ∃ vs', VRs ρ vs vs' ∧ ((r :: l).mapM (readRes tmps)).run P w = .ok vs' w := by
      intro v v' vs1 hv hvs h1 h2
      obtain ⟨vs', h3, h4⟩ := ih vs1 h1
      refine ⟨v' :: vs', by rw [hvs]; exact .cons _ _ _ _ hv h3, ?_⟩
      rw [List.mapM_cons, Sem.run_bind, h2]
      simp only [Result.andThen_ok, Sem.run_bind, h4, Sem.run_pure]
    rw [aresl_cons] at h
    cases r with
    | tmp t =>
      simp only at h
      split at h
      rotate_left
      · cases h
      rename_i vs1 h1
      cases h
      exact key _ _ vs1 (ht.2.2 t) rfl h1 rfl
    | cell a t =>
      simp only at h
      split at h
      rotate_left
      · cases h
      rename_i p hp
      split at h
      rotate_left
      · cases h
      rename_i v M1 hl
      split at h
      rotate_left
      · cases h
      rename_i vs1 hlim h1
      cases h
      have hlim : Nat.succ M1.nxt ≤ bigger := by simpa using hlim
      have hpr := ht.2.2 a
      rw [hp] at hpr
      obtain ⟨l', hl', hs, he⟩ := hpr.ptr_inv
      have hsr := SR.loadVar (q := True) (P := P) (N := N) (w0 := w0) t (he ▸ hpr)
      obtain ⟨ρ', v', w', k1, k2, k3, k4, k5⟩ := hsr M w v M1 hr hl hlim
      obtain ⟨e1, e2, e3⟩ := k5 trivial
      rw [e3] at k3
      rw [e2] at k2
      refine key v v' vs1 k3 rfl h1 ?_
      unfold readRes
      simp only [he, asAddr, Sem.run_bind, Sem.run_pure, Result.andThen_ok, k2]
theorem aresults_sound {n : Nat} {T : Tr Value} {tmps : Array Value} (hr : Rel N w0 ρ M w) (ht : TR ρ n T tmps) {fn : Func} {v : Value} (h : aresults P fn T M = some v) :
    ∃ v', VR ρ v v' ∧ (results fn tmps).run P w = .ok v' w := by
  unfold aresults at h
  split at h
  rotate_left
  · cases h
  rename_i vs hvs
  cases h
  obtain ⟨vs', h1, h2⟩ := aresl_sound hr ht _ _ hvs
  have hm : (fn.results.mapM (readRes tmps)).run P w = .ok vs'.toArray w := by
    rw [Array.mapM_eq_mapM_toList, Sem.run_map, h2]
    rfl
  have hres : results fn tmps = (do let vs ← fn.results.mapM (readRes tmps); pure (if h : vs.size = 1 then vs[0] else .tuple vs)) := by
    unfold results
    have : (fun r : ResultVar => (match r with
      | .tmp t => pure (tmps.getD t undef)
      | .cell a t => do Go.loadVar t (← asAddr (tmps.getD a undef)) : Sem Value)) = readRes tmps := by
      funext r
      cases r <;> rfl
    rw [← this]
    rfl
  refine ⟨pack vs', ?_, ?_⟩
  · cases h1 with
    | nil => exact .tuple _ _ .nil
    | cons _ _ _ _ h hs => cases hs with
      | nil => exact h
      | cons _ _ _ _ h' hs' => exact .tuple _ _ (by simpa [pack] using VRs.cons _ _ _ _ h (.cons _ _ _ _ h' hs'))
  · rw [hres, Sem.run_bind, hm]
    simp only [Result.andThen_ok, Sem.run_pure]
    congr 1
    cases vs' with
    | nil => rfl
    | cons a l => cases l with
      | nil => rfl
      | cons b l => simp [pack]
end
end Go.Sim
namespace Go.Sim
open Go.RowKit
section
variable {P : Program} {N : Prot} {w0 : World} {ρ : Emb} {M : AMem} {w : World}

/-! ### Steps of a scope -/
theorem stepR_scope {b : Frame} {a : Act} {k : List Item} {cs : List Frame} {c : Code} : step P (lone (b.atR a (.code (.scope c) :: k)) cs w) = .next (lone (b.atR a (.code c :: .inScope c :: k)) cs w) :=
  step_lone_go (by simp [stepG, stepG.exec, Frame.atR])
theorem stepR_inScope {b : Frame} {a : Act} {k : List Item} {cs : List Frame} {c : Code} : step P (lone (b.atR a (.inScope c :: k)) cs w) = .next (lone (b.atR a k) cs w) :=
  step_lone_go (by simp [stepG, stepG.exec, Frame.atR])
def noGoto (Q : Exit → Act → World → Prop) : Exit → Act → World → Prop
  | .goto _, _, _ => False
  | e, a, w => Q e a w
theorem wpIn_scope_straight {F : Fence} {n : Nat} {Q : Exit → Act → World → Prop} {a : Act} {c : Code} (h : c.wpIn F n P (noGoto Q) a w) : (Code.scope c).wpIn F n P Q a w := by
  intro b k cs hro hb hr
  have h0 : (lone (b.atR a (.code (.scope c) :: k)) cs w).fenced P F := fenced_calm hb hr rfl
  obtain ⟨e, a₁, w₁, hq, harr⟩ := h b (.inScope c :: k) cs hro hb hr
  cases e with
  | normal => exact ⟨.normal, a₁, w₁, hq, .head h0 stepR_scope (StepsIn.trans harr (.one (fenced_calm hb hr rfl) stepR_inScope))⟩
  | exit id =>
    have hx : exitTo id (.inScope c :: k) = exitTo id k := by simp [exitTo]
    exact ⟨.exit id, a₁, w₁, hq, fun k' hk => .head h0 stepR_scope (harr.1 k' (by rw [hx]; exact hk)),
      fun hr' hk => let ⟨k₁, h1, h2⟩ := harr.2 hr' (by rw [hx]; exact hk); ⟨k₁, h1, .head h0 stepR_scope h2⟩⟩
  | goto l => exact hq.elim
  | ret => exact ⟨_, a₁, w₁, hq, .of_steps (.one h0 stepR_scope) harr⟩
  | panic ch => exact ⟨_, a₁, w₁, hq, .of_steps (.one h0 stepR_scope) harr⟩
  | outgrown => exact ⟨_, a₁, w₁, hq, .of_steps (.one h0 stepR_scope) harr⟩
theorem PostC.noGoto {n : Nat} {e : AEx} {T : Tr Value} {D : List Nat} : ∀ e' a' w', PostC N w0 ρ n e T D M e' a' w' → noGoto (PostC N w0 ρ n e T D M) e' a' w' := by
  intro e' a' w' h
  cases e' with
  | goto l => obtain ⟨h, _⟩ := h; cases e <;> cases h
  | _ => exact h
theorem PostC.le {ρ' : Emb} (hl : ρ.le ρ') {n : Nat} {e : AEx} {T : Tr Value} {D : List Nat} {e' : Exit} {a' : Act} {w' : World} (h : PostC N w0 ρ' n e T D M e' a' w') : PostC N w0 ρ n e T D M e' a' w' :=
  let ⟨h1, ρ2, h2, h3⟩ := h; ⟨h1, ρ2, hl.trans h2, h3⟩
theorem PostF.le {ρ' : Emb} (hl : ρ.le ρ') {v : Value} {e' : Ending} {w' : World} (h : PostF N w0 ρ' v M e' w') : PostF N w0 ρ v M e' w' :=
  let ⟨ρ2, v', h2, h3⟩ := h; ⟨ρ2, v', hl.trans h2, h3⟩

theorem gok_R {n : Nat} {T : Tr Value} {a : Act} (ht : TR ρ n T a.tmps) {g : Operand} (h : gok g = true) : VR ρ (aenv T g) (a.eval g) := by
  cases g with
  | tmp t => exact ht.2.2 t
  | func f => exact .func _ _ _ _ _ (fun k e => by cases e) .nil .nil
  | const v => cases h
  | global g => cases h
theorem acond_sound {n : Nat} {T : Tr Value} {a : Act} (ht : TR ρ n T a.tmps) {c : Operand} {b : Bool} (h : acond T c = some b) : a.eval c = .bool b := by
  unfold acond at h
  split at h
  · rename_i hg
    split at h
    · rename_i b' hb
      cases h
      have := gok_R ht hg
      rw [hb] at this
      exact this.flat_eq rfl
    · cases h
  · split at h
    · cases h; rfl
    · cases h
theorem setParams_sound {n : Nat} : ∀ (l : List (Tmp × Value)) (l' : List (Tmp × Value)) (T T' : Tr Value) (tmps : Array Value), setParams n l T = some T' → l.map (·.1) = l'.map (·.1) → VRs ρ (l.map (·.2)) (l'.map (·.2)) → TR ρ n T tmps →
    TR ρ n T' (l'.foldl (fun tmps (t, a) => tmps.setIfInBounds t a) tmps) := by
  intro l
  induction l with
  | nil =>
    intro l' T T' tmps h h1 _ ht
    cases l' with
    | nil => cases h; exact ht
    | cons _ _ => simp at h1
  | cons p l ih =>
    intro l' T T' tmps h h1 h2 ht
    cases l' with
    | nil => simp at h1
    | cons p' l' =>
      obtain ⟨t, v⟩ := p
      obtain ⟨t', v'⟩ := p'
      simp only [List.map_cons, List.cons.injEq] at h1
      obtain ⟨rfl, h1⟩ := h1
      simp only [List.map_cons] at h2
      cases h2 with
      | cons _ _ _ _ hv hvs =>
        unfold setParams at h
        split at h
        rotate_left
        · cases h
        rename_i T1 hp
        exact ih l' T1 T' _ h h1 hvs (ht.put (a := { tmps := tmps, defers := [] }) (dst := some t) hv hp)
theorem zip_parts {A : Type} : ∀ (ps : List A) (l l' : List Value), VRs ρ l l' → ps.length = l.length → ((ps.zip l).map (·.1) = (ps.zip l').map (·.1)) ∧ VRs ρ ((ps.zip l).map (·.2)) ((ps.zip l').map (·.2)) := by
  intro ps
  induction ps with
  | nil => intro l l' _ _; simp; exact .nil
  | cons p ps ih =>
    intro l l' h hl
    cases h with
    | nil => simp at hl
    | cons v v' l l' hv hvs =>
      obtain ⟨h1, h2⟩ := ih l l' hvs (by simpa using hl)
      refine ⟨by simp [h1], ?_⟩
      simp only [List.zip_cons_cons, List.map_cons]
      exact .cons _ _ _ _ hv h2
/-- A loop's record on both sides. -/
theorem Rel.loop (hr : Rel N w0 ρ M w) {b : Nat} {l : ALoop} (hg : M.get b = some (.loop l)) : ∃ B r, ρ b = some ⟨B, 0, 0, 0⟩ ∧ w.heap[B]? = some (.loop r) ∧ r.state = l.st ∧ r.pending = l.pend ∧ TR ρ l.n l.tmps r.tmps ∧ r.params = l.params ∧ r.assign = l.assign ∧ r.body = l.body ∧ ρ l.defers = some ⟨r.defers, 0, 0, 0⟩ := by
  obtain ⟨loc, hl, ⟨⟨h1, h2, h3⟩, o', h4, r, rfl, h5⟩, _⟩ := hr.obj _ _ hg rfl
  obtain ⟨B, sh, sz, top⟩ := loc
  simp only at h1 h2 h3 h4
  subst h1 h2 h3
  exact ⟨B, r, hl, h4, h5⟩
theorem Rel.setLoop (hr : Rel N w0 ρ M w) {b B : Nat} {l l2 : ALoop} {r r2 : Loop} (hg : M.get b = some (.loop l)) (hB : ρ b = some ⟨B, 0, 0, 0⟩) (hw : w.heap[B]? = some (.loop r)) (h2 : LoopR ρ l2 (.loop r2)) : Rel N w0 ρ (M.set b (.loop l2)) (w.putObj B (.loop r2)) := by
  have hlt : B < w.heap.size := by
    have := Array.getElem?_eq_some_iff.1 hw
    exact this.1
  refine hr.turn hg rfl rfl hB (.loop l2) rfl World.putObj_size rfl rfl rfl (fun k hk => World.putObj_heap_other hk) fun _ => ?_
  exact ⟨⟨rfl, rfl, rfl⟩, _, World.putObj_heap_same hlt, h2⟩
end
end Go.Sim
namespace Go.Sim
open Go.RowKit
section
variable {P : Program} {N : Prot} {w0 : World} {ρ : Emb} {M : AMem} {w : World}

theorem loop_sound {E : Ex} (hE : Sound P N w0 E) {n : Nat} {ro : Option Nat} {c : Code} {T : Tr Value} {D : List Nat} {e : AEx} {T' : Tr Value} {D' : List Nat} {M' : AMem}
    (h : acodeF P E n ro (.loop c) T D M = some (e, T', D', M')) {a : Act} {ro' : Option Nat} (hr : Rel N w0 ρ M w) (ht : TR ρ n T a.tmps) (hd : DR ρ D a.defers) (hro : RoR ρ ro ro')
    (b : Frame) (q : List Item) (cs : List Frame) (hb : b.roundOf = ro') : ∃ e' a' w', PostC N w0 ρ n e T' D' M' e' a' w' ∧ ArrivesIn (Machine.fenced P (fen ro')) P (lone (b.atR a (.code c :: .inLoop c :: q)) cs w) b q cs e' a' w' := by
  simp only [acodeF] at h
  split at h
  · rename_i T1 D1 M1 hc
    obtain ⟨e1, a1, w1, ⟨rfl, ρ1, hle, hr1, ht1, hd1⟩, harr⟩ := hE.code _ _ _ _ _ _ _ _ _ _ hc ρ w a ro' 0 hr ht hd hro b (.inLoop c :: q) cs hb trivial (fen_room _ _)
    obtain ⟨e2, a2, w2, hp2, harr2⟩ := hE.loop _ _ _ _ _ _ _ _ _ _ h ρ1 w1 a1 ro' hr1 ht1 hd1 (hro.mono hle) b q cs hb
    exact ⟨e2, a2, w2, hp2.le hle, .of_steps (StepsIn.trans harr (.one (fenced_calm (n := 0) trivial (fen_room _ _) rfl) stepR_inLoop)) harr2⟩
  · rename_i hne
    obtain ⟨e1, a1, w1, hp, harr⟩ := hE.code _ _ _ _ _ _ _ _ _ _ h ρ w a ro' 0 hr ht hd hro b (.inLoop c :: q) cs hb trivial (fen_room _ _)
    refine ⟨e1, a1, w1, hp, .pass (x := .inLoop c) rfl (fun _ _ => .inl ?_) harr⟩
    obtain ⟨rfl, _⟩ := hp
    intro he
    cases e with
    | normal => exact hne _ _ _ h
    | ret => cases he
    | exit id => cases he
theorem run_enterLoop_inner {l : Nat} {r : Loop} (h : w.heap[l]? = some (.loop r)) (fn : FuncId) (tmps : Array Value) (ps : Array Tmp) (assign body : Code) :
    (Instr.enterLoop fn tmps ps assign body (some l)).run P w =
      .ok (w.heap.size, []) (w.alloc (.loop { state := .ready, pending := none, fn, tmps, params := ps, assign, body, defers := r.defers })) := by
  unfold Instr.enterLoop
  simp only [Sem.run_bind, run_getLoop h, run_newObj_alloc, Result.andThen, Sem.run_pure]
theorem aenter_sound {ro ro' : Option Nat} {n : Nat} {ps : Array Tmp} {assign body : Code} {T : Tr Value} {D D1 : List Nat} {lb : Nat} {M1 : AMem} (h : aenter ro n ps assign body T D M = some (D1, lb, M1))
    {a : Act} (hr : Rel N w0 ρ M w) (ht : TR ρ n T a.tmps) (hd : DR ρ D a.defers) (hro : RoR ρ ro ro') (fn : FuncId) :
    ∃ l mark w1 ρ1, ρ.le ρ1 ∧ (Instr.enterLoop fn a.tmps ps assign body ro').run P w = .ok (l, mark) w1 ∧ Rel N w0 ρ1 M1 w1 ∧ ρ1 lb = some ⟨l, 0, 0, 0⟩ ∧ DR ρ1 D1 (mark ++ a.defers) := by
  unfold aenter at h
  obtain ⟨hlim, h⟩ := cond_some h
  have hlim : Nat.succ (Nat.succ (Nat.succ M.nxt)) ≤ bigger := by simpa using hlim
  cases ro with
  | none =>
    cases ro' with
    | some _ => exact hro.elim
    | none =>
      simp only at h
      cases h
      obtain ⟨hle1, hr1⟩ := hr.alloc (o := .obj (.deferred (some []))) (o' := .deferred (some [])) (by omega) rfl 0 0 (fun _ => rfl) (fun _ => ⟨⟨rfl, rfl, rfl⟩, _, World.alloc_heap_new _ _, rfl⟩)
      have hself := ext_self ρ M.nxt ⟨w.heap.size, 0, 0, 0⟩
      obtain ⟨hle2, hr2⟩ := hr1.alloc (o := .loop ⟨.ready, none, n, T, ps, assign, body, M.nxt⟩)
        (o' := .loop { state := .ready, pending := none, fn, tmps := a.tmps, params := ps, assign, body, defers := w.heap.size }) (by show Nat.succ (Nat.succ M.nxt) < bigger; omega) rfl 0 0 (fun _ => rfl)
        (fun _ => ⟨⟨rfl, rfl, rfl⟩, _, World.alloc_heap_new _ _, ⟨_, rfl, rfl, rfl, ht.mono (hle1.trans (ext_le hr1.fresh)), rfl, rfl, rfl, ext_le hr1.fresh _ _ hself⟩⟩)
      refine ⟨w.heap.size + 1, _, _, _, hle1.trans hle2, run_enterLoop_outer fn a.tmps ps assign body, hr2, ?_, ?_⟩
      · have := ext_self (ext ρ M.nxt ⟨w.heap.size, 0, 0, 0⟩) (Nat.succ M.nxt) ⟨(w.alloc (.deferred (some []))).heap.size, 0, 0, 0⟩
        rw [World.size_alloc] at this ⊢
        exact this
      · exact ⟨⟨w.heap.size, hle2 _ _ hself, rfl⟩, hd.mono (hle1.trans hle2)⟩
  | some b =>
    cases ro' with
    | none => exact hro.elim
    | some B =>
      simp only at h
      split at h
      rotate_left
      · cases h
      rename_i l hg
      cases h
      obtain ⟨B', r, hB, hw, h1, h2, h3, h4, h5, h6, h7⟩ := hr.loop hg
      have hro : ρ b = some ⟨B, 0, 0, 0⟩ := hro
      rw [hro] at hB
      cases hB
      obtain ⟨hle1, hr1⟩ := hr.alloc (o := .loop ⟨.ready, none, n, T, ps, assign, body, l.defers⟩)
        (o' := .loop { state := .ready, pending := none, fn, tmps := a.tmps, params := ps, assign, body, defers := r.defers }) (by omega) rfl 0 0 (fun _ => rfl)
        (fun _ => ⟨⟨rfl, rfl, rfl⟩, _, World.alloc_heap_new _ _, ⟨_, rfl, rfl, rfl, ht.mono (ext_le hr.fresh), rfl, rfl, rfl, ext_le hr.fresh _ _ h7⟩⟩)
      exact ⟨w.heap.size, [], _, _, hle1, run_enterLoop_inner hw fn a.tmps ps assign body, hr1, ext_self _ _ _, hd.mono hle1⟩
theorem aleave_sound {b B : Nat} {pend : Option Code} {M' : AMem} (h : aleave b M = some (pend, M')) (hr : Rel N w0 ρ M w) (hB : ρ b = some ⟨B, 0, 0, 0⟩) :
    ∃ w', (Instr.endLoop B).run P w = .ok pend w' ∧ Rel N w0 ρ M' w' := by
  unfold aleave at h
  split at h
  rotate_left
  · cases h
  rename_i l hg
  obtain ⟨B', r, hB', hw, h1, h2, h3, h4, h5, h6, h7⟩ := hr.loop hg
  rw [hB] at hB'
  cases hB'
  have hnb : l.st ≠ .busy ∧ some (l.pend, M.set b .dead) = some (pend, M') := by
    split at h
    · cases h
    · rename_i hne
      exact ⟨hne, h⟩
  obtain ⟨hnb, h⟩ := hnb
  cases h
  refine ⟨_, by rw [← h2]; exact run_endLoop hw (by rw [h1]; exact hnb), ?_⟩
  exact hr.turn hg rfl rfl hB .dead rfl World.putObj_size rfl rfl rfl (fun k hk => World.putObj_heap_other hk) (fun h => by cases h)
theorem range_callee {a : Act} {g : Operand} {f : FuncId} {a' c' : Array Value} (h : a.eval g = .func (.func f) a' c') (hok : okFunc P f = true) (l : Nat) (w : World) :
    ∃ d, (resolve a.eval (rangeCall g l) 0).run P w = .ok d w ∧ (invoke d.target d.args).run P w = .ok (.enter f (a' ++ #[.func (.yield l) #[] #[]] ++ c')) w := by
  have hy : a.eval (.const (.func (.yield l) #[] #[])) = .func (.yield l) #[] #[] := rfl
  refine ⟨_, by unfold resolve; simp only [h, Sem.run_pure, Deferred.ofValue, hy, List.map_toArray, List.map_cons, List.map_nil]; rfl, ?_⟩
  simp [invoke, run_callFunc hok]
theorem rangeFunc_sound {E : Ex} (hE : Sound P N w0 E) {n : Nat} {ro : Option Nat} {g : Operand} {ps : Array Tmp} {assign body : Code} {T : Tr Value} {D : List Nat} {e : AEx} {T' : Tr Value} {D' : List Nat} {M' : AMem}
    (h : arangeFunc P E n ro g ps assign body T D M = some (e, T', D', M')) {a : Act} {ro' : Option Nat} (k : Nat) (hr : Rel N w0 ρ M w) (ht : TR ρ n T a.tmps) (hd : DR ρ D a.defers) (hro : RoR ρ ro ro') :
    (Code.rangeFunc g ps assign body).wpIn (fen ro') k P (PostC N w0 ρ n e T' D' M') a w := by
  unfold arangeFunc at h
  split at h
  rotate_left
  · cases h
  rename_i hg
  split at h
  rotate_left
  · cases h
  rename_i D1 lb M1 hent
  split at h
  rotate_left
  · cases h
  rename_i f first cap hcal
  split at h
  rotate_left
  · cases h
  rename_i hok
  split at h
  rotate_left
  · cases h
  rename_i v M2 hcall
  refine wpIn_rangeFunc fun fn _ => ?_
  obtain ⟨l, mark, w1, ρ1, hle1, hrun, hr1, hlb, hd1⟩ := aenter_sound (P := P) hent hr ht hd hro fn
  have hgR := gok_R ht hg
  rw [hcal] at hgR
  generalize hx : a.eval g = x at hgR
  cases hgR with
  | flat _ hf => exact Bool.noConfusion (show false = true from hf)
  | func _ _ _ a' c' hy h1 h2 =>
    obtain ⟨d, hd2, hinv⟩ := range_callee hx hok l w1
    refine ⟨l, mark, w1, d, w1, f, _, w1, hrun, hd2, fun _ _ => trivial, hinv, fun h => absurd h (by rw [fen_depth]; simp), ?_⟩
    have hargs : VRs ρ1 (first ++ #[Value.func (.yield lb) #[] #[]] ++ cap).toList (a' ++ #[Value.func (.yield l) #[] #[]] ++ c').toList := by
      simp only [Array.toList_append]
      exact ((h1.mono hle1).append (.cons _ _ _ _ (.yield lb l hlb) .nil)).append (h2.mono hle1)
    refine (hE.call _ _ _ _ _ hcall ρ1 w1 _ ro' (k - 1) hr1 hargs).mono ?_
    rintro e1 w2 ⟨ρ2, v', hle2, rfl, hv, hr2⟩
    have hle := hle1.trans hle2
    split at h
    · rename_i M3 hlv
      cases h
      obtain ⟨w3, h3, hr3⟩ := aleave_sound (P := P) hlv hr2 (hle2 _ _ hlb)
      exact ⟨none, w3, h3, rfl, ρ2, hle, hr3, ht.mono hle, hd1.mono hle2⟩
    · rename_i c M3 hlv
      obtain ⟨w3, h3, hr3⟩ := aleave_sound (P := P) hlv hr2 (hle2 _ _ hlb)
      refine ⟨some c, w3, h3, ?_⟩
      refine wpIn_mono (hE.code _ _ _ _ _ _ _ _ _ _ h ρ2 w3 _ ro' k hr3 (ht.mono hle) (hd1.mono hle2) (hro.mono hle)) fun _ _ _ hp => hp.le hle
    · cases h
theorem code_sound (hz : zerosFine P) (hm : P.follows .mixedOrders = true) {E : Ex} (hE : Sound P N w0 E) {n : Nat} {ro : Option Nat} {c : Code} {T : Tr Value} {D : List Nat} {e : AEx} {T' : Tr Value} {D' : List Nat} {M' : AMem}
    (h : acodeF P E n ro c T D M = some (e, T', D', M')) {a : Act} {ro' : Option Nat} (k : Nat) (hr : Rel N w0 ρ M w) (ht : TR ρ n T a.tmps) (hd : DR ρ D a.defers) (hro : RoR ρ ro ro') :
    c.wpIn (fen ro') k P (PostC N w0 ρ n e T' D' M') a w := by
  have elder := h
  cases c with
  | skip => cases h; exact wpIn_skip ⟨rfl, ρ, Emb.le.refl _, hr, ht, hd⟩
  | label l => cases h; exact wpIn_label ⟨rfl, ρ, Emb.le.refl _, hr, ht, hd⟩
  | exit id => cases h; exact wpIn_exit ⟨rfl, ρ, Emb.le.refl _, hr, ht, hd⟩
  | ret => cases h; exact wpIn_ret ⟨rfl, ρ, Emb.le.refl _, hr, ht, hd⟩
  | goto l => cases h
  | refuse s => cases h
  | region id ops draw =>
    simp only [acodeF] at h
    split at h
    rotate_left
    · cases h
    rename_i T1 M1 hs
    cases h
    cases draw with
    | true => exact aregionD_sound hz hm hE hs hr ht fun ρ' a' w' hle hr' ht' hde => ⟨rfl, ρ', hle, hr', ht', by rw [hde]; exact hd.mono hle⟩
    | false => exact aregion_sound hz hE hs hr ht fun ρ' a' w' hle hr' ht' hde => ⟨rfl, ρ', hle, hr', ht', by rw [hde]; exact hd.mono hle⟩
  | seq x y =>
    simp only [acodeF] at h
    refine wpIn_seq ?_
    split at h
    · rename_i T1 D1 M1 hc
      refine wpIn_mono (hE.code _ _ _ _ _ _ _ _ _ _ hc ρ w a ro' k hr ht hd hro) ?_
      rintro e1 a1 w1 ⟨rfl, ρ1, hle, hr1, ht1, hd1⟩
      exact wpIn_mono (hE.code _ _ _ _ _ _ _ _ _ _ h ρ1 w1 a1 ro' k hr1 ht1 hd1 (hro.mono hle)) fun _ _ _ hp => hp.le hle
    · rename_i hne
      refine wpIn_mono (hE.code _ _ _ _ _ _ _ _ _ _ h ρ w a ro' k hr ht hd hro) ?_
      rintro e1 a1 w1 hp
      have hp' := hp
      obtain ⟨rfl, _⟩ := hp
      cases e with
      | normal => exact (hne _ _ _ h).elim
      | ret => exact hp'
      | exit id => exact hp'
  | cond c x y =>
    simp only [acodeF] at h
    split at h
    · rename_i hc
      exact wpIn_cond_true (acond_sound ht hc) (hE.code _ _ _ _ _ _ _ _ _ _ h ρ w a ro' k hr ht hd hro)
    · rename_i hc
      exact wpIn_cond_false (acond_sound ht hc) (hE.code _ _ _ _ _ _ _ _ _ _ h ρ w a ro' k hr ht hd hro)
    · cases h
  | block id body =>
    simp only [acodeF] at h
    refine wpIn_block ?_
    split at h
    · rename_i id' T1 D1 M1 hc
      refine wpIn_mono (hE.code _ _ _ _ _ _ _ _ _ _ hc ρ w a ro' k hr ht hd hro) ?_
      rintro e1 a1 w1 ⟨rfl, hrest⟩
      simp only [toExit, Exit.inBlock]
      cases hb : Nat.beq id' id with
      | true =>
        rw [hb] at h
        cases h
        rw [if_pos (Nat.eq_of_beq_eq_true hb)]
        exact ⟨rfl, hrest⟩
      | false =>
        rw [hb] at h
        cases h
        rw [if_neg (fun e => by rw [e, Nat.beq_refl] at hb; cases hb)]
        exact ⟨rfl, hrest⟩
    · rename_i hne
      refine wpIn_mono (hE.code _ _ _ _ _ _ _ _ _ _ h ρ w a ro' k hr ht hd hro) ?_
      rintro e1 a1 w1 hp
      have hp' := hp
      obtain ⟨rfl, _⟩ := hp
      cases e with
      | normal => exact hp'
      | ret => exact hp'
      | exit id' => exact (hne _ _ _ _ h).elim
  | loop body =>
    intro b q cs hb _ _
    obtain ⟨e1, a1, w1, hp, harr⟩ := loop_sound hE elder hr ht hd hro b q cs hb
    exact ⟨e1, a1, w1, hp, .of_steps (.one (fenced_calm (n := 0) trivial (fen_room _ _) rfl) stepR_loop) harr⟩
  | scope body =>
    exact wpIn_scope_straight (wpIn_mono (hE.code _ _ _ _ _ _ _ _ _ _ h ρ w a ro' k hr ht hd hro) fun _ _ _ hp => PostC.noGoto _ _ _ hp)
  | rangeFunc g ps assign body => exact rangeFunc_sound hE h k hr ht hd hro
theorem call_sound {E : Ex} (hE : Sound P N w0 E) {f : FuncId} {args : Array Value} {v : Value} {M' : AMem} (h : acallF P E f args M = some (v, M')) (hr : Rel N w0 ρ M w) {args' : Array Value} {ro' : Option Nat} {k : Nat}
    (hargs : VRs ρ args.toList args'.toList) : CallsIn (fen ro') k P f args' w (PostF N w0 ρ v M') := by
  unfold acallF at h
  split at h
  rotate_left
  · cases h
  rename_i fn hf
  split at h
  rotate_left
  · cases h
  rename_i c hb
  obtain ⟨hlim, h⟩ := cond_some h
  have hlim : Nat.succ (args.toList.length + (fn.ntmps - args.toList.length)) ≤ bigger := by simpa using hlim
  have ht := args_TR hargs fn.ntmps hlim
  have key : ∀ (e : AEx) (T1 : Tr Value) (D1 : List Nat) (M1 M2 : AMem), (e = .normal ∨ e = .ret) → E.code (args.toList.length + (fn.ntmps - args.toList.length)) none c (argsT args.toList 0 .nil) [] M = some (e, T1, D1, M1) →
      killD D1 M1 = some M2 → aresults P fn T1 M2 = some v → M2 = M' → CallsIn (fen none) k P f args' w (PostF N w0 ρ v M') := by
    intro e T1 D1 M1 M2 he hc hk hres hM
    subst hM
    refine callsIn_of_wp_marks hf hb trivial ?_
    refine wpIn_mono (hE.code _ _ _ _ _ _ _ _ _ _ hc ρ w _ none k hr ht trivial trivial) ?_
    rintro e1 a1 w1 ⟨rfl, ρ1, hle, hr1, ht1, hd1⟩
    have : LeavesInM (fen none) k P fn a1.tmps (PostF N w0 ρ v M2) a1.defers .returning w1 := by
      refine killD_sound _ _ _ _ _ hk hr1 hd1 fun w2 hr2 => ?_
      obtain ⟨v', hv, hrun⟩ := aresults_sound hr2 ht1 hres
      exact ⟨v', hrun, ρ1, v', hle, rfl, hv, hr2⟩
    rcases he with rfl | rfl
    · exact this
    · exact this
  have : CallsIn (fen none) k P f args' w (PostF N w0 ρ v M') := by
    split at h
    · rename_i T1 D1 M1 hc
      split at h
      rotate_left
      · cases h
      rename_i M2 hk
      split at h
      rotate_left
      · cases h
      rename_i v1 hres
      cases h
      exact key _ _ _ _ _ (.inl rfl) hc hk hres rfl
    · rename_i T1 D1 M1 hc
      split at h
      rotate_left
      · cases h
      rename_i M2 hk
      split at h
      rotate_left
      · cases h
      rename_i v1 hres
      cases h
      exact key _ _ _ _ _ (.inr rfl) hc hk hres rfl
    · cases h
  exact this
theorem round_sound {E : Ex} (hE : Sound P N w0 E) {b : Nat} {args : Array Value} {v : Value} {M' : AMem} (h : aroundF E b args M = some (v, M')) (hr : Rel N w0 ρ M w) {args' : Array Value} {B : Nat} {ro' : Option Nat} {k : Nat}
    (hargs : VRs ρ args.toList args'.toList) (hB : ρ b = some ⟨B, 0, 0, 0⟩) :
    ∃ f tmps assign body, (Instr.yield B args').run P w = .ok (.round B f tmps assign body) w ∧ RoundIn (fen ro') k P B f tmps assign body w (PostF N w0 ρ v M') := by
  unfold aroundF at h
  split at h
  rotate_left
  · cases h
  rename_i l hg
  obtain ⟨hsz, h⟩ := cond_some h
  have hsz : args.toList.length = l.params.toList.length := Nat.eq_of_beq_eq_true hsz
  split at h
  rotate_left
  · cases h
  rename_i T hT
  split at h
  rotate_left
  · cases h
  rename_i T1 D1 M1 hassign
  split at h
  rotate_left
  · cases h
  rename_i l1 hg1
  split at h
  rotate_left
  · cases h
  rename_i hst
  split at h
  rotate_left
  · cases h
  rename_i e T3 D3 M3 hbody
  obtain ⟨B', r, hB', hw, h1, h2, h3, h4, h5, h6, h7⟩ := hr.loop hg
  rw [hB] at hB'
  cases hB'
  have hlen := hargs.length
  refine ⟨r.fn, _, r.assign, r.body, run_yield hw (by rw [h4]; simp only [Array.length_toList] at hsz hlen; omega), ?_⟩
  have htm : TR ρ l.n T ((r.params.zip args').foldl (fun tmps (t, a) => tmps.setIfInBounds t a) r.tmps) := by
    obtain ⟨z1, z2⟩ := zip_parts l.params.toList _ _ hargs hsz.symm
    have := setParams_sound _ (l.params.toList.zip args'.toList) _ _ r.tmps hT z1 z2 h3
    rw [h4]
    rw [← Array.foldl_toList, Array.toList_zip]
    exact this
  refine roundIn_of_wpIn trivial ?_
  rw [h5]
  refine wpIn_mono (hE.code _ _ _ _ _ _ _ _ _ _ hassign ρ w { tmps := (r.params.zip args').foldl (fun tmps (t, a) => tmps.setIfInBounds t a) r.tmps, defers := [] } (some B) k hr htm trivial hB) ?_
  rintro e1 a1 w1 ⟨rfl, ρ1, hle1, hr1, ht1, hd1⟩
  obtain ⟨B1, r1, hB1, hw1, k1, k2, k3, k4, k5, k6, k7⟩ := hr1.loop hg1
  rw [hle1 _ _ hB] at hB1
  cases hB1
  have hr2 := hr1.setLoop (l2 := { l1 with st := .busy }) (r2 := { r1 with state := .busy }) hg1 (hle1 _ _ hB) hw1 ⟨_, rfl, rfl, k2, k3, k4, k5, k6, k7⟩
  refine ⟨_, run_beginRound hw1 (by rw [k1]; exact hst), ?_⟩
  rw [h6]
  refine wpIn_mono (hE.code _ _ _ _ _ _ _ _ _ _ hbody ρ1 _ a1 (some B) k hr2 ht1 hd1 (hle1 _ _ hB)) ?_
  rintro e2 a2 w2 ⟨rfl, ρ2, hle2, hr3, ht3, hd3⟩
  unfold aendRound at h
  split at h
  rotate_left
  · cases h
  rename_i l2 hg2
  obtain ⟨B2, r2, hB2, hw2, j1, j2, j3, j4, j5, j6, j7⟩ := hr3.loop hg2
  rw [hle2 _ _ (hle1 _ _ hB)] at hB2
  cases hB2
  have hend : ∀ (st : LoopState) (jump : Option Code), (if jump.isNone then LoopState.ready else .done) = st → v = .bool jump.isNone → M' = M3.set b (.loop { l2 with st := st, pend := jump }) →
      ∃ v' w', (Instr.endRound B jump).run P w2 = .ok v' w' ∧ PostF N w0 ρ v M' (.returned v') w' := by
    intro st jump hs hv hM
    refine ⟨_, _, run_endRound jump hw2, ρ2, .bool jump.isNone, hle1.trans hle2, rfl, by rw [hv]; exact .flat _ rfl, ?_⟩
    rw [hM]
    exact hr3.setLoop hg2 (hle2 _ _ (hle1 _ _ hB)) hw2 ⟨_, rfl, hs, rfl, j3, j4, j5, j6, j7⟩
  cases e with
  | normal => simp only at h; cases h; exact hend .ready none rfl rfl rfl
  | ret => simp only at h; cases h; exact hend .done (some .ret) rfl rfl rfl
  | exit id => simp only at h; cases h; exact hend .done (some (.exit id)) rfl rfl rfl
theorem next_sound (hz : zerosFine P) (hm : P.follows .mixedOrders = true) {E : Ex} (hE : Sound P N w0 E) : Sound P N w0 (Ex.next P E) where
  code := fun _ _ _ _ _ _ _ _ _ _ h _ _ _ _ k hr ht hd hro => code_sound hz hm hE h k hr ht hd hro
  loop := fun _ _ _ _ _ _ _ _ _ _ h _ _ _ _ hr ht hd hro b q cs hb => loop_sound hE h hr ht hd hro b q cs hb
  call := fun _ _ _ _ _ h _ _ _ _ _ hr hargs => call_sound hE h hr hargs
  round := fun _ _ _ _ _ h _ _ _ _ _ _ hr hargs hB => round_sound hE h hr hargs hB
theorem exec_sound (hz : zerosFine P) (hm : P.follows .mixedOrders = true) : ∀ k, Sound P N w0 (exec P k)
  | 0 => ⟨fun _ _ _ _ _ _ _ _ _ _ h => (by cases h), fun _ _ _ _ _ _ _ _ _ _ h => (by cases h), fun _ _ _ _ _ h => (by cases h), fun _ _ _ _ _ h => (by cases h)⟩
  | k + 1 => next_sound hz hm (exec_sound hz hm k)
end
end Go.Sim
namespace Go.Sim
open Go.RowKit
/-- Known package-level variables: which ones, and what they hold. -/
noncomputable def romTr (l : List (Nat × List Value)) : Tr AObj := List.rec .nil (fun p _ ih => Tr.set (.rom p.2 .glob) ih (Nat.succ p.1)) l
noncomputable def romM (nxt : Nat) (l : List (Nat × List Value)) : AMem := ⟨nxt, romTr l⟩
noncomputable def yes (r : Option (Value × AMem)) : Bool :=
  match r with
  | some (.bool true, _) => true
  | _ => false
section
variable {P : Program} {w : World}
theorem romTr_cons (p : Nat × List Value) (l : List (Nat × List Value)) : romTr (p :: l) = Tr.set (.rom p.2 .glob) (romTr l) (Nat.succ p.1) := rfl
theorem romTr_get : ∀ (l : List (Nat × List Value)), (∀ p ∈ l, p.1 < bigger) → ∀ (b : Nat) (o : AObj), (romTr l).get (Nat.succ b) = some o → ∃ p ∈ l, p.1 = b ∧ o = .rom p.2 .glob := by
  intro l
  induction l with
  | nil => intro _ b o h; cases h
  | cons p l ih =>
    intro hb b o h
    rw [romTr_cons, Tr.get_set _ _ _ _ (by omega) (by omega) (by have := hb p (by simp); unfold bigger at this; omega)] at h
    split at h
    · rename_i e
      cases h
      exact ⟨p, by simp, by omega, rfl⟩
    · obtain ⟨p', h1, h2⟩ := ih (fun p hp => hb p (by simp [hp])) b o h
      exact ⟨p', by simp [h1], h2⟩
/-- What is known of the world at the start. -/
def Starts (l : List (Nat × List Value)) (nxt : Nat) (w : World) : Prop :=
  nxt < bigger ∧ ∀ p ∈ l, p.1 < nxt ∧ p.2.all isFlat = true ∧ ∃ (c' : Array Value) (e : TypeId) (fz : Nat × Nat), w.heap[p.1]? = some (.cells c' e fz) ∧ ∀ (j : Nat) (v : Value), p.2[j]? = some v → c'[j]? = some v
noncomputable def rho0 (M : AMem) : Emb := fun b => match M.get b with
  | some _ => some ⟨b, 0, 0, 0⟩
  | none => none
/-- All that was there is protected; the known variables are the package's. -/
def start (l : List (Nat × List Value)) (w : World) (h : ∀ p ∈ l, p.1 < w.heap.size) : Prot := ⟨fun k => k < w.heap.size, fun k => ∃ p ∈ l, p.1 = k, fun _ ⟨p, hp, e⟩ => e ▸ h p hp, fun k => k < w.heap.size, fun _ h => h⟩
theorem Starts.lt {l : List (Nat × List Value)} {nxt : Nat} (h : Starts l nxt w) : ∀ p ∈ l, p.1 < w.heap.size := fun p hp =>
  let ⟨_, _, _, _, _, h1, _⟩ := h.2 p hp
  (Array.getElem?_eq_some_iff.1 h1).1
theorem rel_start {l : List (Nat × List Value)} {nxt : Nat} (h : Starts l nxt w) : Rel (start l w h.lt) w (rho0 (romM nxt l)) (romM nxt l) w := by
  have hlt := h.lt
  obtain ⟨hn, hl⟩ := h
  have hget : ∀ b o, (romM nxt l).get b = some o → ∃ p ∈ l, p.1 = b ∧ o = .rom p.2 .glob := fun b o ho => romTr_get l (fun p hp => Nat.lt_trans (hl p hp).1 hn) b o ho
  have hrho : ∀ b o, (romM nxt l).get b = some o → rho0 (romM nxt l) b = some ⟨b, 0, 0, 0⟩ := fun b o ho => by unfold rho0; rw [ho]
  have hinv : ∀ b x, rho0 (romM nxt l) b = some x → x = ⟨b, 0, 0, 0⟩ ∧ ∃ o, (romM nxt l).get b = some o := by
    intro b x hx
    unfold rho0 at hx
    split at hx
    · rename_i o ho; cases hx; exact ⟨rfl, o, ho⟩
    · cases hx
  refine ⟨⟨rfl, rfl, rfl, Nat.le_refl _, fun _ _ => rfl⟩, fun _ h => h, ?_, ?_, ?_, ?_, hn, ?_, ?_, ?_, ?_⟩
  · intro b x hx
    obtain ⟨rfl, o, ho⟩ := hinv b x hx
    obtain ⟨p, hp, rfl, rfl⟩ := hget b o ho
    obtain ⟨_, _, c', e, fz, h1, _⟩ := hl p hp
    exact ⟨(Array.getElem?_eq_some_iff.1 h1).1, _, ho⟩
  · intro b o ho _
    obtain ⟨p, hp, rfl, rfl⟩ := hget b o ho
    obtain ⟨_, hf, c', e, fz, h1, h2⟩ := hl p hp
    refine ⟨_, hrho _ _ ho, .inr ⟨c', e, fz, h1, ?_, fun _ => rfl⟩, fun h => by cases h⟩
    intro j v hv
    refine ⟨v, by simpa using h2 j v hv, .flat _ ?_⟩
    exact List.all_eq_true.1 hf v (List.mem_of_getElem? hv)
  · intro b b' o o' x x' h1 h2 _ _ _ _ r1 r2 hne
    obtain ⟨rfl, _⟩ := hinv _ _ r1
    obtain ⟨rfl, _⟩ := hinv _ _ r2
    exact hne
  · intro b o ho
    obtain ⟨p, hp, rfl, rfl⟩ := hget b o ho
    exact (hl p hp).1
  · intro b c hb
    exact hrho _ _ hb
  · intro b c hb
    obtain ⟨p, hp, e, _⟩ := hget b _ hb
    exact ⟨p, hp, e⟩
  · intro b o x hb _ hx
    obtain ⟨rfl, o', ho'⟩ := hinv b x hx
    obtain ⟨p, hp, e, _⟩ := hget b _ ho'
    exact e ▸ hlt p hp
  · intro b o x hb _ hx _
    obtain ⟨rfl, _⟩ := hinv b x hx
    rfl
/-- A closed call's contract, from its run on known memory. -/
theorem calls_of_exec (hz : zerosFine P) (hm : P.follows .mixedOrders = true) {k : Nat} {f : FuncId} {l : List (Nat × List Value)} {nxt : Nat} (h : yes ((exec P k).call f #[] (romM nxt l)) = true) (hs : Starts l nxt w) :
    Calls P f #[] w fun e w' => e = .returned (.bool true) ∧ Below w.heap.size w w' := by
  unfold yes at h
  split at h
  · rename_i M' hc
    have := (exec_sound (N := start l w hs.lt) (w0 := w) hz hm k).call f #[] _ _ _ hc _ w #[] none 0 (rel_start hs) .nil
    rw [fen_none, callsIn_wide] at this
    intro cs
    obtain ⟨e, w', fr, ⟨ρ', v', hle, rfl, hv, hr⟩, hrest⟩ := this cs
    exact ⟨_, w', fr, ⟨by rw [hv.flat_eq rfl], hr.below.os, hr.below.tape, hr.below.output, hr.below.size, hr.below.block⟩, hrest⟩
  · cases h
end
end Go.Sim
namespace Go.Sim
open Go.RowKit
section
variable {P : Program} {N : Prot} {w0 : World} {ρ : Emb} {M : AMem} {w : World}

/-! ### Blocks of one's own, kept from a call -/
def Prot.add (N : Prot) (S : Nat → Prop) : Prot := ⟨fun k => N.F k ∨ S k, N.G, fun k h => .inl (N.gf k h), N.R, fun k h => .inl (N.rf k h)⟩
/-- Blocks that nobody tracks are protected for a while. -/
theorem Rel.protect (h : Rel N w0 ρ M w) (S : Nat → Prop) (hS : ∀ k, S k → k < w.heap.size) (hfree : ∀ b o l, M.get b = some o → o.live = true → o.rom? = false → ρ b = some l → ¬ S l.blk) :
    Rel (N.add S) w ρ M w := by
  refine ⟨⟨rfl, rfl, rfl, Nat.le_refl _, fun _ _ => rfl⟩, ?_, h.used, ?_, h.inj, h.nxt, h.lim, h.glob, h.romG, h.romF, h.nul⟩
  · rintro k (hk | hk)
    · exact h.base k hk
    · exact hS k hk
  · intro b o ho hl
    obtain ⟨l, h1, h2, h3⟩ := h.obj b o ho hl
    refine ⟨l, h1, h2, fun hr => ?_⟩
    rintro (hk | hk)
    · exact h3 hr hk
    · exact hfree b o l ho hl hr h1 hk
theorem Bel.trans {N' : Prot} {a b c : World} (h : Bel N a b) (h' : Bel N' b c) (hsub : ∀ k, N.F k → N'.F k) : Bel N a c :=
  ⟨h'.os.trans h.os, h'.tape.trans h.tape, h'.output.trans h.output, Nat.le_trans h.size h'.size, fun k hk => (h'.block k (hsub k hk)).trans (h.block k hk)⟩
/-- What was protected is still there, and nobody tracks it. -/
theorem Rel.kept {ρ' : Emb} {M' : AMem} {w' : World} {S : Nat → Prop} (h' : Rel (N.add S) w ρ' M' w') {k : Nat} (hk : S k) : w'.heap[k]? = w.heap[k]? ∧ ∀ b o l, M'.get b = some o → o.live = true → o.rom? = false → ρ' b = some l → l.blk ≠ k := by
  refine ⟨h'.below.block k (.inr hk), ?_⟩
  intro b o l ho hl hr hl' e
  obtain ⟨l2, h1, _, h3⟩ := h'.obj b o ho hl
  rw [hl'] at h1
  cases h1
  exact h3 hr (.inr (e ▸ hk))
/-- Protection ends. -/
theorem Rel.weaken {w1 : World} {S : Nat → Prop} (h : Rel N w0 ρ M w) {ρ' : Emb} {M' : AMem} (h' : Rel (N.add S) w ρ' M' w1) : Rel N w0 ρ' M' w1 :=
  ⟨h.below.trans h'.below fun _ hk => .inl hk, fun k hk => h'.base k (.inl hk), h'.used, fun b o ho hl => let ⟨l, h1, h2, h3⟩ := h'.obj b o ho hl; ⟨l, h1, h2, fun hr hk => h3 hr (.inl hk)⟩, h'.inj, h'.nxt, h'.lim, h'.glob, h'.romG, h'.romF, h'.nul⟩
/-- A block that nobody tracked is tracked from now on. -/
theorem Rel.adopt (h : Rel N w0 ρ M w) (hlim : Nat.succ M.nxt < bigger) {o : AObj} {B : Nat} (hB : B < w.heap.size) (hnF : ¬ N.F B) (hfree : ∀ b o l, M.get b = some o → o.live = true → o.rom? = false → ρ b = some l → l.blk ≠ B)
    (hro : o.rom? = false) (hOR : o.live = true → OR (ext ρ M.nxt ⟨B, 0, 0, 0⟩) o ⟨B, 0, 0, 0⟩ w) :
    ρ.le (ext ρ M.nxt ⟨B, 0, 0, 0⟩) ∧ Rel N w0 (ext ρ M.nxt ⟨B, 0, 0, 0⟩) (M.alloc o) w := by
  have hle := ext_le (l := ⟨B, 0, 0, 0⟩) h.fresh
  refine ⟨hle, h.below, h.base, ?_, ?_, ?_, ?_, hlim, ?_, ?_, ?_, ?_⟩
  · intro b l hb
    rw [AMem.get_alloc h.lim]
    unfold ext at hb
    split at hb
    · rename_i e; cases hb; exact ⟨hB, by rw [if_pos e]; exact ⟨_, rfl⟩⟩
    · rename_i e; obtain ⟨h1, h2⟩ := h.used b l hb; exact ⟨h1, by rw [if_neg e]; exact h2⟩
  · intro b p hb hl
    rw [AMem.get_alloc h.lim] at hb
    split at hb
    · rename_i e; subst e; cases hb; exact ⟨_, ext_self _ _ _, hOR hl, fun _ => hnF⟩
    · obtain ⟨l, h1, h2, h3⟩ := h.obj b p hb hl
      exact ⟨l, hle _ _ h1, h2.mono hle, h3⟩
  · intro b b' p p' l l' h1 h2 v1 v2 m1 m2 r1 r2 hne
    rw [AMem.get_alloc h.lim] at h1 h2
    unfold ext at r1 r2
    by_cases e1 : b = M.nxt
    · rw [if_pos e1] at r1
      cases r1
      by_cases e2 : b' = M.nxt
      · exact absurd (e1.trans e2.symm) hne
      · rw [if_neg e2] at r2 h2
        exact (hfree b' p' l' h2 v2 m2 r2).symm
    · rw [if_neg e1] at r1 h1
      by_cases e2 : b' = M.nxt
      · rw [if_pos e2] at r2
        cases r2
        exact hfree b p l h1 v1 m1 r1
      · rw [if_neg e2] at r2 h2
        exact h.inj b b' p p' l l' h1 h2 v1 v2 m1 m2 r1 r2 hne
  · intro b p hb
    rw [AMem.get_alloc h.lim] at hb
    show b < Nat.succ M.nxt
    split at hb
    · omega
    · have := h.nxt b p hb; omega
  · intro b c hb
    rw [AMem.get_alloc h.lim] at hb
    split at hb
    · cases hb; cases hro
    · exact hle _ _ (h.glob b c hb)
  · intro b c hb
    rw [AMem.get_alloc h.lim] at hb
    split at hb
    · cases hb; cases hro
    · exact h.romG b c hb
  · intro b p l hb hr hl
    rw [AMem.get_alloc h.lim] at hb
    split at hb
    · cases hb; rw [hro] at hr; cases hr
    · rename_i e
      refine h.romF b p l hb hr ?_
      unfold ext at hl
      rwa [if_neg e] at hl
  · intro b p l hb hn hl
    rw [AMem.get_alloc h.lim] at hb
    unfold ext at hl
    split at hb
    · rename_i e; rw [if_pos e] at hl; cases hl; exact fun _ => rfl
    · rename_i e; rw [if_neg e] at hl; exact h.nul b p l hb hn hl
/-- A new block that nobody tracks yet. -/
theorem Rel.spawn (h : Rel N w0 ρ M w) (o' : Obj) : Rel N w0 ρ M (w.alloc o') := by
  refine ⟨h.below.alloc h.base _, fun k hk => by have := h.base k hk; simp; omega, ?_, ?_, h.inj, h.nxt, h.lim, h.glob, h.romG, h.romF, h.nul⟩
  · intro b l hb
    obtain ⟨h1, h2⟩ := h.used b l hb
    exact ⟨by simp; omega, h2⟩
  · intro b o ho hl
    obtain ⟨l, h1, h2, h3⟩ := h.obj b o ho hl
    exact ⟨l, h1, h2.heap (Below.heap_alloc _ _ _ (h.used _ _ h1).1), h3⟩
end
end Go.Sim
