/- Contracts of calls from runs with hints on memory that is known in part. No conditions. -/
import Derived.Test.YtfgdbanigkfjlaaDoorKa
namespace Go.Sim
open Go.RowKit
noncomputable def takeAll (M : AMem) (bs : List Nat) : Option (List (Nat × AObj)) :=
  List.rec (motive := fun _ => Option (List (Nat × AObj))) (some []) (fun b _ ih => match M.get b, ih with
    | some o, some l => some ((b, o) :: l)
    | _, _ => none) bs
section
variable {M : AMem}
theorem takeAll_at : ∀ (bs : List Nat) (km : List (Nat × AObj)), takeAll M bs = some km → ∀ p ∈ km, M.get p.1 = some p.2 := by
  intro bs
  induction bs with
  | nil => intro km h p hp; cases h; cases hp
  | cons b bs ih =>
    intro km h p hp
    have h' : (match M.get b, takeAll M bs with | some o, some l => some ((b, o) :: l) | _, _ => none) = some km := h
    split at h'
    · rename_i o l ho hl
      cases h'
      rcases List.mem_cons.1 hp with rfl | hp
      · exact ho
      · exact ih l hl p hp
    · cases h'
end
/-! ### States that are written down -/
noncomputable def junk : Value := .tuple #[undef]
noncomputable def junkT (n : Nat) : Tr Value := Nat.rec (motive := fun _ => Tr Value) .nil (fun i ih => Tr.set junk ih (Nat.succ i)) n
noncomputable def tOf (n : Nat) (kn : List (Nat × Value)) : Tr Value := List.rec (motive := fun _ => Tr Value) (junkT n) (fun p _ ih => Tr.set p.2 ih (Nat.succ p.1)) kn
noncomputable def mTr (km : List (Nat × AObj)) : Tr AObj := List.rec (motive := fun _ => Tr AObj) .nil (fun p _ ih => Tr.set p.2 ih (Nat.succ p.1)) km
noncomputable def mOf (nxt : Nat) (km : List (Nat × AObj)) : AMem := ⟨nxt, mTr km⟩
theorem slot_junkT : ∀ (n : Nat), n < bigger → ∀ t, (t < n ∧ slot (junkT n) t = junk) ∨ (n ≤ t ∧ slot (junkT n) t = undef) := by
  intro n
  induction n with
  | zero => intro _ t; exact .inr ⟨Nat.zero_le _, rfl⟩
  | succ n ih =>
    intro hn t
    have e : junkT (n + 1) = Tr.set junk (junkT n) (Nat.succ n) := rfl
    rw [e, slot_set (by omega)]
    by_cases h : t = n
    · rw [if_pos h]; exact .inl ⟨by omega, rfl⟩
    · rw [if_neg h]
      rcases ih (by omega) t with ⟨h1, h2⟩ | ⟨h1, h2⟩
      · exact .inl ⟨by omega, h2⟩
      · exact .inr ⟨by omega, h2⟩
theorem slot_tOf {n : Nat} (hn : n < bigger) : ∀ (kn : List (Nat × Value)), (∀ p ∈ kn, p.1 < n) → ∀ t, (∃ p ∈ kn, p.1 = t ∧ slot (tOf n kn) t = p.2) ∨ (t < n ∧ slot (tOf n kn) t = junk) ∨ (n ≤ t ∧ slot (tOf n kn) t = undef) := by
  intro kn
  induction kn with
  | nil => intro _ t; exact .inr (slot_junkT n hn t)
  | cons q kn ih =>
    intro hk t
    have e : tOf n (q :: kn) = Tr.set q.2 (tOf n kn) (Nat.succ q.1) := rfl
    have hq := hk q (by simp)
    rw [e, slot_set (by omega)]
    by_cases h : t = q.1
    · rw [if_pos h]; exact .inl ⟨q, by simp, h.symm, rfl⟩
    · rw [if_neg h]
      rcases ih (fun p hp => hk p (by simp [hp])) t with ⟨p, h1, h2, h3⟩ | h1
      · exact .inl ⟨p, by simp [h1], h2, h3⟩
      · exact .inr h1
theorem mOf_get {nxt : Nat} (hn : nxt < bigger) : ∀ (km : List (Nat × AObj)), (∀ p ∈ km, p.1 < nxt) → ∀ b o, (mOf nxt km).get b = some o → (b, o) ∈ km := by
  intro km
  induction km with
  | nil => intro _ b o h; cases h
  | cons q km ih =>
    intro hk b o h
    have hq := hk q (by simp)
    have e : (mOf nxt (q :: km)).get b = (Tr.set q.2 (mTr km) (Nat.succ q.1)).get (Nat.succ b) := rfl
    rw [e, Tr.get_set _ _ _ _ (by omega) (by omega) (by unfold bigger at hn; omega)] at h
    split at h
    · rename_i e2
      cases h
      have : b = q.1 := by omega
      rw [this]
      simp
    · have := ih (fun p hp => hk p (by simp [hp])) b o h
      simp [this]
theorem mOf_mem {nxt : Nat} (hn : nxt < bigger) : ∀ (km : List (Nat × AObj)), (∀ p ∈ km, p.1 < nxt) → ∀ p ∈ km, ∃ o, (mOf nxt km).get p.1 = some o := by
  intro km
  induction km with
  | nil => intro _ p hp; cases hp
  | cons q km ih =>
    intro hk p hp
    have hq := hk q (by simp)
    have e : (mOf nxt (q :: km)).get p.1 = (Tr.set q.2 (mTr km) (Nat.succ q.1)).get (Nat.succ p.1) := rfl
    rw [e, Tr.get_set _ _ _ _ (by omega) (by omega) (by unfold bigger at hn; omega)]
    by_cases h : p.1 = q.1
    · rw [if_pos (by rw [h])]; exact ⟨_, rfl⟩
    · rw [if_neg (by omega)]
      rcases List.mem_cons.1 hp with rfl | hp
      · exact absurd rfl h
      · exact ih (fun p hp => hk p (by simp [hp])) p hp

/-! ### Values that lead to some blocks alone -/
def Pin (S : Nat → Prop) (v : Value) : Prop := ∀ (ρ ρ' : Emb) (u : Value), (∀ b l, S b → ρ b = some l → ρ' b = some l) → VR ρ v u → VR ρ' v u
def PinL (S : Nat → Prop) (l : List Value) : Prop := ∀ v ∈ l, Pin S v
theorem Pin.list {S : Nat → Prop} : ∀ (l : List Value), PinL S l → ∀ (ρ ρ' : Emb) (u : List Value), (∀ b l, S b → ρ b = some l → ρ' b = some l) → VRs ρ l u → VRs ρ' l u := by
  intro l
  induction l with
  | nil => intro _ ρ ρ' u _ h; cases h; exact .nil
  | cons v l ih =>
    intro hp ρ ρ' u hs h
    cases h with
    | cons _ u1 _ l1 h1 h2 => exact .cons _ _ _ _ (hp v (by simp) ρ ρ' u1 hs h1) (ih (fun x hx => hp x (by simp [hx])) ρ ρ' l1 hs h2)
def pinB : Nat → List Nat → Value → Bool
  | 0, _, _ => false
  | d + 1, ids, v => match v with
    | .pointer (some a) => ids.any (Nat.beq a.block)
    | .slice (some a) _ _ => ids.any (Nat.beq a.block)
    | .map (some b) => ids.any (Nat.beq b)
    | .func (.yield b) _ _ => ids.any (Nat.beq b)
    | .func _ a c => a.toList.all (pinB d ids) && c.toList.all (pinB d ids)
    | .iface _ v => pinB d ids v
    | .agg l => l.toList.all (pinB d ids)
    | .tuple l => l.toList.all (pinB d ids)
    | v => isFlat v
theorem anyB {b : Nat} {ids : List Nat} (h : ids.any (Nat.beq b) = true) : b ∈ ids := by
  obtain ⟨x, h1, h2⟩ := List.any_eq_true.1 h
  rw [Nat.eq_of_beq_eq_true h2]
  exact h1
theorem pinB_pin {ids : List Nat} : ∀ (d : Nat) (v : Value), pinB d ids v = true → Pin (· ∈ ids) v := by
  intro d
  induction d with
  | zero => intro v h; cases h
  | succ d ih =>
    intro v h ρ ρ' u hs hv
    cases hv with
    | flat _ hf => exact .flat _ hf
    | ptr b o l hl => exact .ptr b o l (hs b l (anyB h) hl)
    | slc b o n c c' l hl hc => exact .slc b o n c c' l (hs b l (anyB h) hl) hc
    | slc0 b o x c' l hl h2 hc => exact .slc0 b o x c' l (hs b l (anyB h) hl) h2 hc
    | slcn b o c l hl h2 ht => exact .slcn b o c l (hs b l (anyB h) hl) h2 ht
    | map b B hl => exact .map b B (hs b _ (anyB h) hl)
    | func f a c a' c' hy h1 h2 =>
      have h' : (a.toList.all (pinB d ids) && c.toList.all (pinB d ids)) = true := by
        cases f with
        | yield k => exact absurd rfl (hy k)
        | _ => exact h
      rw [Bool.and_eq_true] at h'
      exact .func f a c a' c' hy (Pin.list _ (fun x hx => ih x (List.all_eq_true.1 h'.1 x hx)) ρ ρ' _ hs h1) (Pin.list _ (fun x hx => ih x (List.all_eq_true.1 h'.2 x hx)) ρ ρ' _ hs h2)
    | yield b B hl => exact .yield b B (hs b _ (anyB h) hl)
    | iface t v v' h1 => exact .iface t v v' (ih v h ρ ρ' v' hs h1)
    | agg l l' h1 => exact .agg l l' (Pin.list _ (fun x hx => ih x (List.all_eq_true.1 h x hx)) ρ ρ' _ hs h1)
    | tuple l l' h1 => exact .tuple l l' (Pin.list _ (fun x hx => ih x (List.all_eq_true.1 h x hx)) ρ ρ' _ hs h1)
theorem Pin.pf {S : Nat → Prop} {v : Value} (h : Sim.pf v = true) : Pin S v := fun ρ ρ' u _ hv => by rw [hv.pf_eq h]; exact VR.of_pf h
theorem PinL.pf {S : Nat → Prop} {l : List Value} (h : ∀ v ∈ l, Sim.pf v = true) : PinL S l := fun v hv => Pin.pf (h v hv)
theorem PinL.lit {ids : List Nat} {l : List Value} (h : l.all (pinB 9 ids) = true) : PinL (· ∈ ids) l := fun v hv => pinB_pin 9 v (List.all_eq_true.1 h v hv)
def PinO (S : Nat → Prop) : AObj → Prop
  | .row c _ => PinL S c
  | .rom c _ => PinL S c
  | .dead => True
  | .obj (.deferred (some [])) => True
  | .loop l => (∀ t, Pin S (slot l.tmps t)) ∧ S l.defers
  | _ => False
def PinAll (S : Nat → Prop) : List (Nat × AObj) → Prop
  | [] => True
  | p :: l => PinO S p.2 ∧ PinAll S l
theorem PinAll.at {S : Nat → Prop} : ∀ (l : List (Nat × AObj)), PinAll S l → ∀ p ∈ l, PinO S p.2 := by
  intro l
  induction l with
  | nil => intro _ p hp; cases hp
  | cons q l ih =>
    intro h p hp
    rcases List.mem_cons.1 hp with rfl | hp
    · exact h.1
    · exact ih h.2 p hp
def ids (km : List (Nat × AObj)) : List Nat := km.map (·.1)
def ltAll (l : List Nat) (n : Nat) : Bool := l.all fun x => Nat.ble (Nat.succ x) n
theorem ltAll_at {l : List Nat} {n : Nat} (h : ltAll l n = true) : ∀ x ∈ l, x < n := fun x hx => by
  have h1 := List.all_eq_true.1 h x hx
  have h2 : Nat.succ x ≤ n := by simpa using h1
  exact h2

section
variable {P : Program} {N : Prot} {w0 : World} {ρ : Emb} {M : AMem} {w : World}
/-- What is known may be forgotten. -/
theorem Rel.restrict (hr : Rel N w0 ρ M w) {nxt : Nat} (hn : nxt < bigger) {km : List (Nat × AObj)} (hk : ltAll (ids km) nxt = true) (hg : ∀ p ∈ km, M.get p.1 = some p.2) (hp : PinAll (· ∈ ids km) km) :
    Rel N w0 (fun b => match (mOf nxt km).get b with | some _ => ρ b | none => none) (mOf nxt km) w := by
  have hlt : ∀ p ∈ km, p.1 < nxt := fun p hp => ltAll_at hk p.1 (List.mem_map.2 ⟨p, hp, rfl⟩)
  have hget : ∀ b o, (mOf nxt km).get b = some o → M.get b = some o ∧ (b, o) ∈ km := fun b o h => ⟨hg _ (mOf_get hn km hlt b o h), mOf_get hn km hlt b o h⟩
  have hin : ∀ b l, b ∈ ids km → ρ b = some l → (fun b => match (mOf nxt km).get b with | some _ => ρ b | none => none : Emb) b = some l := by
    intro b l hb hl
    obtain ⟨p, h1, rfl⟩ := List.mem_map.1 hb
    obtain ⟨o, ho⟩ := mOf_mem hn km hlt p h1
    simp only [ho]
    exact hl
  have hinv : ∀ b l, (fun b => match (mOf nxt km).get b with | some _ => ρ b | none => none : Emb) b = some l → ρ b = some l ∧ ∃ o, (mOf nxt km).get b = some o := by
    intro b l h
    simp only at h
    split at h
    · rename_i o ho; exact ⟨h, o, ho⟩
    · cases h
  have hcells : ∀ c sh c', PinL (· ∈ ids km) c → CellsR ρ c sh c' → CellsR (fun b => match (mOf nxt km).get b with | some _ => ρ b | none => none) c sh c' := by
    intro c sh c' hpc h j v hj
    obtain ⟨u, h1, h2⟩ := h j v hj
    exact ⟨u, h1, hpc v (List.mem_of_getElem? hj) ρ _ u hin h2⟩
  refine ⟨hr.below, hr.base, ?_, ?_, ?_, ?_, hn, ?_, ?_, ?_, fun b o l hb hn2 hl => hr.nul b o l (hget b o hb).1 hn2 (hinv b l hl).1⟩
  · intro b l hb
    obtain ⟨h1, o, h2⟩ := hinv b l hb
    exact ⟨(hr.used b l h1).1, o, h2⟩
  · intro b o hb hl
    obtain ⟨h1, h2⟩ := hget b o hb
    obtain ⟨l, h3, h4, h5⟩ := hr.obj b o h1 hl
    refine ⟨l, hin b l (List.mem_map.2 ⟨_, h2, rfl⟩) h3, ?_, h5⟩
    have hpo := hp.at km _ h2
    cases o with
    | row c sz => obtain ⟨c', e, k1, k2, k3⟩ := h4; exact ⟨c', e, k1, hcells c _ c' hpo k2, k3⟩
    | rom c g =>
      rcases h4 with h4 | ⟨c', e, fz, k1, k2, k3⟩
      · exact .inl h4
      · exact .inr ⟨c', e, fz, k1, hcells c _ c' hpo k2, k3⟩
    | dead => trivial
    | obj o => cases o with
      | deferred l => cases l with
        | none => exact hpo.elim
        | some l => cases l with
          | nil => exact h4
          | cons _ _ => exact hpo.elim
      | _ => exact hpo.elim
    | loop r =>
      obtain ⟨k0, o', k1, r', k2, k3, k4, k5, k6, k7, k8, k9⟩ := h4
      exact ⟨k0, o', k1, r', k2, k3, k4, ⟨k5.1, k5.2.1, fun t => hpo.1 t ρ _ _ hin (k5.2.2 t)⟩, k6, k7, k8, hin _ _ hpo.2 k9⟩
  · intro b b' o o' l l' h1 h2 v1 v2 m1 m2 r1 r2 hne
    exact hr.inj b b' o o' l l' (hget b o h1).1 (hget b' o' h2).1 v1 v2 m1 m2 (hinv b l r1).1 (hinv b' l' r2).1 hne
  · intro b o hb
    exact hlt _ (hget b o hb).2
  · intro b c hb
    have h1 := hr.glob b c (hget b _ hb).1
    exact hin b _ (List.mem_map.2 ⟨_, (hget b _ hb).2, rfl⟩) h1
  · intro b c hb
    exact hr.romG b c (hget b _ hb).1
  · intro b o l hb hrm hl
    exact hr.romF b o l (hget b o hb).1 hrm (hinv b l hl).1


noncomputable def retab (n : Nat) (T : Tr Value) : Tr Value := Nat.rec (motive := fun _ => Tr Value) .nil (fun i ih => Tr.set (slot T i) ih (Nat.succ i)) n
theorem retab_slot : ∀ (n : Nat) (T : Tr Value), n < bigger → ∀ t, slot (retab n T) t = if t < n then slot T t else undef := by
  intro n
  induction n with
  | zero => intro T _ t; rw [if_neg (by omega)]; rfl
  | succ n ih =>
    intro T hn t
    have e : retab (n + 1) T = Tr.set (slot T n) (retab n T) (Nat.succ n) := rfl
    rw [e, slot_set (by omega), ih T (by omega)]
    by_cases h : t = n
    · rw [if_pos h, if_pos (by omega), h]
    · rw [if_neg h]
      by_cases h2 : t < n
      · rw [if_pos h2, if_pos (by omega)]
      · rw [if_neg h2, if_neg (by omega)]
noncomputable def pinTB (n : Nat) (ids : List Nat) (T : Tr Value) : Bool := Nat.rec (motive := fun _ => Bool) true (fun i ih => pinB 9 ids (slot T i) && ih) n
theorem pinTB_at {ids : List Nat} {T : Tr Value} : ∀ {n : Nat}, pinTB n ids T = true → ∀ t, t < n → pinB 9 ids (slot T t) = true := by
  intro n
  induction n with
  | zero => intro _ t h; omega
  | succ n ih =>
    intro h t ht
    have h' : (pinB 9 ids (slot T n) && pinTB n ids T) = true := h
    rw [Bool.and_eq_true] at h'
    by_cases e : t = n
    · rw [e]; exact h'.1
    · exact ih h'.2 t (by omega)
theorem undef_pin (S : Nat → Prop) : Pin S undef := Pin.pf rfl
theorem PinO.lp {ids : List Nat} {l : ALoop} {T : Tr Value} (h1 : l.tmps = retab l.n T) (h : (Nat.ble (Nat.succ l.n) bigger && (pinTB l.n ids l.tmps && ids.any (Nat.beq l.defers))) = true) : PinO (· ∈ ids) (.loop l) := by
  simp only [Bool.and_eq_true] at h
  obtain ⟨h2, h3, h4⟩ := h
  have h2 : Nat.succ l.n ≤ bigger := by simpa using h2
  refine ⟨fun t => ?_, anyB h4⟩
  by_cases ht : t < l.n
  · exact pinB_pin 9 _ (pinTB_at h3 t ht)
  · rw [h1, retab_slot _ _ (by omega), if_neg ht]
    exact undef_pin _
end

/-! ### What a loop comes to -/
def killO : AObj → AObj
  | .rom c g => .rom c g
  | _ => .dead
noncomputable def Tr.kill (t : Tr AObj) : Tr AObj := Tr.rec (motive := fun _ => Tr AObj) .nil (fun v _ _ l r => .node (v.map killO) l r) t
theorem Tr.get_kill : ∀ (t : Tr AObj) (n : Nat), t.kill.get n = (t.get n).map killO := by
  intro t
  induction t with
  | nil => intro n; rfl
  | node v l r ihl ihr =>
    intro n
    have e : (Tr.node v l r).kill = .node (v.map killO) l.kill r.kill := rfl
    rw [e, Tr.get_node, Tr.get_node, ihl, ihr]
    split
    · rfl
    · split <;> rfl
noncomputable def overM (M : AMem) (km : List (Nat × AObj)) : AMem := ⟨M.nxt, List.rec (motive := fun _ => Tr AObj) M.tr.kill (fun p _ ih => Tr.set p.2 ih (Nat.succ p.1)) km⟩
theorem overM_get {M : AMem} {nxt : Nat} (hn : nxt < bigger) : ∀ (km : List (Nat × AObj)), (∀ p ∈ km, p.1 < nxt) → ∀ b,
    (∃ o, (mOf nxt km).get b = some o ∧ (overM M km).get b = some o) ∨ ((mOf nxt km).get b = none ∧ (overM M km).get b = (M.get b).map killO) := by
  intro km
  induction km with
  | nil => intro _ b; exact .inr ⟨rfl, Tr.get_kill _ _⟩
  | cons q km ih =>
    intro hk b
    have hq := hk q (by simp)
    have e1 : (mOf nxt (q :: km)).get b = (Tr.set q.2 (mTr km) (Nat.succ q.1)).get (Nat.succ b) := rfl
    have e2 : (overM M (q :: km)).get b = (Tr.set q.2 (overM M km).tr (Nat.succ q.1)).get (Nat.succ b) := rfl
    rw [e1, e2, Tr.get_set _ _ _ _ (by omega) (by omega) (by unfold bigger at hn; omega), Tr.get_set _ _ _ _ (by omega) (by omega) (by unfold bigger at hn; omega)]
    by_cases h : b = q.1
    · rw [if_pos (by rw [h]), if_pos (by rw [h])]; exact .inl ⟨_, rfl, rfl⟩
    · rw [if_neg (by omega), if_neg (by omega)]
      exact ih (fun p hp => hk p (by simp [hp])) b
def inB (l : List Nat) (x : Nat) : Bool := l.any (Nat.beq x)
def roB : List Nat → Option Nat → Bool
  | _, none => true
  | l, some b => inB l b
/-- A state that is written down leads to nothing else. -/
def LCok (n : Nat) (ro : Option Nat) (D : List Nat) (kn : List (Nat × Value)) (km : List (Nat × AObj)) (nxt : Nat) : Prop :=
  (Nat.ble (Nat.succ nxt) bigger && (ltAll (ids km) nxt && (ltAll (kn.map (·.1)) n && (kn.all (fun p => pinB 9 (ids km) p.2) && (km.all (fun p => p.2.live) && (D.all (inB (ids km)) && roB (ids km) ro)))))) = true ∧ PinAll (· ∈ ids km) km
def LoopC (P : Program) (G : Globals) (n : Nat) (ro : Option Nat) (body : Code) (D : List Nat) (kn : List (Nat × Value)) (km : List (Nat × AObj)) (nxt : Nat) (e : AEx) (kn' : List (Nat × Value)) (km' : List (Nat × AObj)) : Prop :=
  (LCok n ro D kn km nxt ∧ ids km' = ids km) ∧
  ∀ (N : Prot) (w0 : World), Fine G N w0 → ∀ ρ w a ro', Rel N w0 ρ (mOf nxt km) w → TJ ρ n (tOf n kn) a.tmps → DR ρ D a.defers → RoR ρ ro ro' →
    ∀ (b : Frame) (q : List Item) (cs : List Frame), b.roundOf = ro' → ∃ e' a' w', PostJ N w0 ρ n e (tOf n kn') D (mOf nxt km') e' a' w' ∧ ArrivesIn (Machine.fenced P (fen ro')) P (lone (b.atR a (.code body :: .inLoop body :: q)) cs w) b q cs e' a' w'
section
variable {P : Program} {N : Prot} {w0 : World} {ρ : Emb} {M : AMem} {w : World}
/-- The part of an embedding that leads to what is written down. -/
noncomputable def part (ρ : Emb) (nxt : Nat) (km : List (Nat × AObj)) : Emb := fun b => match (mOf nxt km).get b with | some _ => ρ b | none => none
theorem part_of {nxt : Nat} {km : List (Nat × AObj)} (hn : nxt < bigger) (hk : ltAll (ids km) nxt = true) {b : Nat} {l : Loc} (hb : b ∈ ids km) (hl : ρ b = some l) : part ρ nxt km b = some l := by
  have hlt : ∀ p ∈ km, p.1 < nxt := fun p hp => ltAll_at hk p.1 (List.mem_map.2 ⟨p, hp, rfl⟩)
  obtain ⟨p, h1, rfl⟩ := List.mem_map.1 hb
  obtain ⟨o, ho⟩ := mOf_mem hn km hlt p h1
  unfold part
  simp only [ho]
  exact hl
theorem part_inv {nxt : Nat} {km : List (Nat × AObj)} {b : Nat} {l : Loc} (h : part ρ nxt km b = some l) : ρ b = some l := by
  unfold part at h
  split at h
  · exact h
  · cases h
theorem DR.part {nxt : Nat} {km : List (Nat × AObj)} (hn : nxt < bigger) (hk : ltAll (ids km) nxt = true) : ∀ {D : List Nat} {X : List Deferred}, D.all (inB (ids km)) = true → DR ρ D X → DR (part ρ nxt km) D X := by
  intro D
  induction D with
  | nil => intro X _ h; cases X <;> exact h
  | cons d D ih =>
    intro X hd h
    rw [List.all_cons, Bool.and_eq_true] at hd
    cases X with
    | nil => exact h.elim
    | cons x X =>
      obtain ⟨⟨B, h1, h2⟩, h3⟩ := h
      exact ⟨⟨B, part_of hn hk (anyB hd.1) h1, h2⟩, ih hd.2 h3⟩
theorem RoR.part {nxt : Nat} {km : List (Nat × AObj)} (hn : nxt < bigger) (hk : ltAll (ids km) nxt = true) {ro ro' : Option Nat} (hb : roB (ids km) ro = true) (h : RoR ρ ro ro') : RoR (part ρ nxt km) ro ro' := by
  cases ro with
  | none => cases ro' <;> exact h
  | some b => cases ro' with
    | none => exact h
    | some B => exact part_of hn hk (anyB hb) h
theorem TJ.part {nxt : Nat} {km : List (Nat × AObj)} (hn : nxt < bigger) (hk : ltAll (ids km) nxt = true) {n : Nat} {kn : List (Nat × Value)} (hkn : ltAll (kn.map (·.1)) n = true) (hp : kn.all (fun p => pinB 9 (ids km) p.2) = true) {T : Tr Value} {a : Array Value}
    (ht : TJ ρ n T a) (hs : ∀ p ∈ kn, slot T p.1 = p.2) : TJ (part ρ nxt km) n (tOf n kn) a := by
  refine ⟨ht.1, ht.2.1, fun t => ?_⟩
  have hkl : ∀ p ∈ kn, p.1 < n := fun p hp => ltAll_at hkn p.1 (List.mem_map.2 ⟨p, hp, rfl⟩)
  rcases slot_tOf ht.2.1 kn hkl t with ⟨p, k1, k2, k3⟩ | ⟨k1, k2⟩ | ⟨k1, k2⟩
  · rw [k3]
    have h := ht.2.2 t
    rw [← k2, hs p k1] at h
    rw [← k2]
    rcases h with hj | hv
    · exact .inl hj
    · exact .inr (pinB_pin 9 p.2 (List.all_eq_true.1 hp p k1) ρ _ _ (fun b l hb hl => part_of hn hk hb hl) hv)
  · rw [k2]; exact .inl rfl
  · rw [k2]
    refine .inr ?_
    have : a.getD t undef = undef := by
      rw [Array.getD_eq_getD_getElem?, Array.getElem?_eq_none (by rw [ht.1]; exact k1)]
      rfl
    rw [this]
    exact undefR
theorem LoopC.use {G : Globals} (hf : Fine G N w0) {n : Nat} {ro : Option Nat} {body : Code} {D : List Nat} {T : Tr Value} {ts bs : List Nat} {km : List (Nat × AObj)} {nxt : Nat} {e : AEx} {kn' : List (Nat × Value)} {km' : List (Nat × AObj)}
    (hkm : takeAll M bs = some km) (h : LoopC P G n ro body D (ts.map fun t => (t, slot T t)) km nxt e kn' km') {a : Act} {ro' : Option Nat} (hr : Rel N w0 ρ M w) (ht : TJ ρ n T a.tmps) (hd : DR ρ D a.defers) (hro : RoR ρ ro ro')
    (b : Frame) (q : List Item) (cs : List Frame) (hb : b.roundOf = ro') : ∃ e' a' w', PostJ N w0 ρ n e (tOf n kn') D (overM M km') e' a' w' ∧ ArrivesIn (Machine.fenced P (fen ro')) P (lone (b.atR a (.code body :: .inLoop body :: q)) cs w) b q cs e' a' w' := by
  obtain ⟨⟨⟨hc, hp⟩, hids⟩, hl⟩ := h
  simp only [Bool.and_eq_true] at hc
  obtain ⟨c1, c2, c3, c4, c5, c6, c7⟩ := hc
  have hn : nxt < bigger := by have : Nat.succ nxt ≤ bigger := by simpa using c1
                               exact this
  have hr1 := hr.protect (fun _ => False) (fun _ h => h.elim) (fun _ _ _ _ _ _ _ h => h)
  have hf1 : Fine G (N.add fun _ => False) w := ⟨hf.now hr, fun p hp => .inl (hf.prot p hp)⟩
  have hr2 : Rel (N.add fun _ => False) w (part ρ nxt km) (mOf nxt km) w := hr1.restrict hn c2 (takeAll_at _ _ hkm) hp
  obtain ⟨e', a', w', ⟨he, ρ2, hle, hr3, ht3, hd3⟩, harr⟩ := hl _ _ hf1 (part ρ nxt km) w a ro' hr2 (TJ.part hn c2 c3 c4 ht (fun p hp => by obtain ⟨t, _, rfl⟩ := List.mem_map.1 hp; rfl)) (hd.part hn c2 c6) (hro.part hn c2 c7) b q cs hb
  have hlt : ∀ p ∈ km, p.1 < nxt := fun p hp => ltAll_at c2 p.1 (List.mem_map.2 ⟨p, hp, rfl⟩)
  have hlt' : ∀ p ∈ km', p.1 < nxt := fun p hp => ltAll_at c2 p.1 (by rw [← hids]; exact List.mem_map.2 ⟨p, hp, rfl⟩)
  have hback : ∀ b l, ρ2 b = some l → ρ b = some l ∧ ∃ o, M.get b = some o := by
    intro b l hb
    obtain ⟨_, o, ho⟩ := hr3.used b l hb
    have hin : b ∈ ids km := by rw [← hids]; exact List.mem_map.2 ⟨_, mOf_get hn km' hlt' b o ho, rfl⟩
    obtain ⟨p, h1, rfl⟩ := List.mem_map.1 hin
    obtain ⟨o1, ho1⟩ := mOf_mem hn km hlt p h1
    have hlive : o1.live = true := List.all_eq_true.1 c5 _ (mOf_get hn km hlt _ _ ho1)
    obtain ⟨l1, h2, _⟩ := hr2.obj _ _ ho1 hlive
    have := hle _ _ h2
    rw [hb] at this
    cases this
    exact ⟨part_inv h2, _, takeAll_at _ _ hkm p h1⟩
  have hle2 : ρ2.le ρ := fun b l hb => (hback b l hb).1
  have hlift : ∀ b o l, (mOf nxt km').get b = some o → ρ b = some l → ρ2 b = some l := by
    intro b o l ho hl
    have hin : b ∈ ids km := by rw [← hids]; exact List.mem_map.2 ⟨_, mOf_get hn km' hlt' b o ho, rfl⟩
    exact hle _ _ (part_of hn c2 hin hl)
  have hover := overM_get (M := M) hn km' hlt'
  refine ⟨e', a', w', ⟨he, ρ, Emb.le.refl _, ?_, ht3.mono hle2, hd3.mono hle2⟩, harr⟩
  have hsz : w.heap.size ≤ w'.heap.size := hr3.below.size
  refine ⟨hr.below.trans hr3.below fun _ hk => .inl hk, fun k hk => hr3.base k (.inl hk), ?_, ?_, ?_, ?_, hr.lim, ?_, ?_, ?_, ?_⟩
  · intro b l hb
    obtain ⟨h1, o, ho⟩ := hr.used b l hb
    refine ⟨Nat.lt_of_lt_of_le h1 hsz, ?_⟩
    rcases hover b with ⟨o', _, h2⟩ | ⟨_, h2⟩
    · exact ⟨o', h2⟩
    · rw [h2, ho]; exact ⟨_, rfl⟩
  · intro b o hb hlv
    rcases hover b with ⟨o', h1, h2⟩ | ⟨h1, h2⟩
    · rw [h2] at hb
      cases hb
      obtain ⟨l, k1, k2, k3⟩ := hr3.obj b o h1 hlv
      exact ⟨l, hle2 _ _ k1, k2.mono hle2, fun hrm hk => k3 hrm (.inl hk)⟩
    · rw [h2] at hb
      cases ho : M.get b with
      | none => rw [ho] at hb; cases hb
      | some o0 =>
        rw [ho] at hb
        cases hb
        cases o0 with
        | rom c g =>
          obtain ⟨l, k1, k2, k3⟩ := hr.obj b _ ho rfl
          refine ⟨l, k1, ?_, fun h => by cases h⟩
          have hR := N.rf _ (hr.romF b _ l ho rfl k1)
          have hbl := hr3.below.block l.blk (.inl hR)
          rcases k2 with k2 | ⟨c', e, fz, k4, k5, k6⟩
          · exact .inl k2
          · exact .inr ⟨c', e, fz, hbl.trans k4, k5, k6⟩
        | _ => cases hlv
  · intro b b' o o' l l' h1 h2 v1 v2 m1 m2 r1 r2 hne
    have key : ∀ b o, (overM M km').get b = some o → o.live = true → o.rom? = false → (mOf nxt km').get b = some o := by
      intro b o hb hv hm
      rcases hover b with ⟨o', k1, k2⟩ | ⟨k1, k2⟩
      · rw [k2] at hb; cases hb; exact k1
      · rw [k2] at hb
        cases ho : M.get b with
        | none => rw [ho] at hb; cases hb
        | some o0 =>
          rw [ho] at hb
          cases hb
          cases o0 with
          | rom c g => cases hm
          | _ => cases hv
    have g1 := key b o h1 v1 m1
    have g2 := key b' o' h2 v2 m2
    exact hr3.inj b b' o o' l l' g1 g2 v1 v2 m1 m2 (hlift _ _ _ g1 r1) (hlift _ _ _ g2 r2) hne
  · intro b o hb
    show b < M.nxt
    rcases hover b with ⟨o', k1, _⟩ | ⟨_, k2⟩
    · have hin : b ∈ ids km := by rw [← hids]; exact List.mem_map.2 ⟨_, mOf_get hn km' hlt' b _ k1, rfl⟩
      obtain ⟨p, h1, rfl⟩ := List.mem_map.1 hin
      exact hr.nxt _ _ (takeAll_at _ _ hkm p h1)
    · rw [k2] at hb
      cases ho : M.get b with
      | none => rw [ho] at hb; cases hb
      | some o0 => exact hr.nxt _ _ ho
  · intro b c hb
    rcases hover b with ⟨o', k1, k2⟩ | ⟨_, k2⟩
    · rw [k2] at hb; cases hb; exact hle2 _ _ (hr3.glob b c k1)
    · rw [k2] at hb
      cases ho : M.get b with
      | none => rw [ho] at hb; cases hb
      | some o0 =>
        rw [ho] at hb
        cases o0 <;> cases hb
        exact hr.glob b c ho
  · intro b c hb
    rcases hover b with ⟨o', k1, k2⟩ | ⟨_, k2⟩
    · rw [k2] at hb; cases hb; exact hr3.romG b c k1
    · rw [k2] at hb
      cases ho : M.get b with
      | none => rw [ho] at hb; cases hb
      | some o0 =>
        rw [ho] at hb
        cases o0 <;> cases hb
        exact hr.romG b c ho
  · intro b o l hb hrm hl
    rcases hover b with ⟨o', k1, k2⟩ | ⟨_, k2⟩
    · rw [k2] at hb; cases hb; exact hr3.romF b o l k1 hrm (hlift _ _ _ k1 hl)
    · rw [k2] at hb
      cases ho : M.get b with
      | none => rw [ho] at hb; cases hb
      | some o0 =>
        rw [ho] at hb
        cases hb
        cases o0 with
        | rom c g => exact hr.romF b _ l ho rfl hl
        | _ => cases hrm
  · intro b o l hb hnl hl
    rcases hover b with ⟨o', k1, k2⟩ | ⟨_, k2⟩
    · rw [k2] at hb; cases hb; exact hr3.nul b o l k1 hnl (hlift _ _ _ k1 hl)
    · rw [k2] at hb
      cases ho : M.get b with
      | none => rw [ho] at hb; cases hb
      | some o0 =>
        rw [ho] at hb
        cases hb
        cases o0 with
        | rom c g => exact hr.nul b _ l ho hnl hl
        | row c s => exact hr.nul b _ l ho rfl hl
        | obj _ => exact hr.nul b _ l ho rfl hl
        | loop _ => exact hr.nul b _ l ho rfl hl
        | dead => exact hr.nul b _ l ho rfl hl
end
end Go.Sim
namespace Go.Sim
open Go.RowKit

/-! ### A run with hints, through calls and ranges over functions -/
abbrev HC := Option (AEx × Tr Value × List Nat × AMem × List Hint × List Prop)
abbrev HV := Option (Value × AMem × List Hint × List Prop)
noncomputable def hknown (T : Tr Value) (n : Nat) : Bool := Nat.rec (motive := fun _ => Bool) true (fun i ih => !isJunk (slot T i) && ih) n
noncomputable def hres1 (P : Program) (fn : Func) (T : Tr Value) (M : AMem) : Option Value := bif knownResH T fn.results.toList then aresults P fn T M else none
where knownResH (T : Tr Value) (l : List ResultVar) : Bool := l.all fun r => match r with
  | .tmp t => !isJunk (slot T t)
  | .cell a _ => !isJunk (slot T a)
noncomputable def hcallF (P : Program) (E : HEx) (f : FuncId) (args : Array Value) (M : AMem) (hs : List Hint) : HV :=
  match P.funcs[f]? with
  | some fn => match fn.body with
    | some c => bif Nat.ble (Nat.succ (args.toList.length + (fn.ntmps - args.toList.length))) bigger then
        match E.code (args.toList.length + (fn.ntmps - args.toList.length)) none c (argsT args.toList 0 .nil) [] M hs with
        | some (.normal, T', D', M', hs', R) => match killD D' M' with
          | some M2 => match hres1 P fn T' M2 with
            | some v => some (v, M2, hs', R)
            | none => none
          | none => none
        | some (.ret, T', D', M', hs', R) => match killD D' M' with
          | some M2 => match hres1 P fn T' M2 with
            | some v => some (v, M2, hs', R)
            | none => none
          | none => none
        | _ => none
      else none
    | none => none
  | none => none
noncomputable def hroundF (E : HEx) (b : Nat) (args : Array Value) (M : AMem) (hs : List Hint) : HV :=
  match M.get b with
  | some (.loop l) => bif Nat.beq args.toList.length l.params.toList.length then
      match setParams l.n (l.params.toList.zip args.toList) l.tmps with
      | some T => match E.code l.n (some b) l.assign T [] M hs with
        | some (.normal, T1, D1, M1, hs1, R1) => match M1.get b with
          | some (.loop l1) => match l1.st with
            | .ready => match E.code l.n (some b) l.body T1 D1 (M1.set b (.loop { l1 with st := .busy })) hs1 with
              | some (e, _, _, M3, hs3, R3) => match aendRound b e M3 with
                | some (v, M4) => some (v, M4, hs3, R1 ++ R3)
                | none => none
              | none => none
            | _ => none
          | _ => none
        | _ => none
      | none => none
    else none
  | _ => none
noncomputable def hrangeFunc (P : Program) (E : HEx) (n : Nat) (ro : Option Nat) (g : Operand) (ps : Array Tmp) (assign body : Code) (T : Tr Value) (D : List Nat) (M : AMem) (hs : List Hint) : HC :=
  bif gok g && (hknown T n) then match aenter ro n ps assign body (retab n T) D M with
    | some (D1, lb, M1) => match aenv T g with
      | .func (.func f) first cap => match okFunc P f with
        | true => match E.call f (first ++ #[.func (.yield lb) #[] #[]] ++ cap) M1 hs with
          | some (_, M2, hs2, R2) => match aleave lb M2 with
            | some (none, M3) => some (.normal, T, D1, M3, hs2, R2)
            | some (some c, M3) => match E.code n ro c T D1 M3 hs2 with
              | some (e, T', D', M', hs', R') => some (e, T', D', M', hs', R2 ++ R')
              | none => none
            | none => none
          | none => none
        | false => none
      | _ => none
    | none => none
  else none
def hlc : List Hint → Option (List Nat × List Nat × Nat × AEx × List (Nat × Value) × List (Nat × AObj) × List Hint)
  | ⟨.lc ts bs nxt e kn' km', _⟩ :: hs' => some (ts, bs, nxt, e, kn', km', hs')
  | _ => none
noncomputable def hloopC (P : Program) (G : Globals) (n : Nat) (ro : Option Nat) (body : Code) (T : Tr Value) (D : List Nat) (M : AMem) (ts bs : List Nat) (nxt : Nat) (e : AEx) (kn' : List (Nat × Value)) (km' : List (Nat × AObj)) (hs : List Hint) : HC :=
  bif knownAll T ts then match takeAll M bs with
    | some km => some (e, tOf n kn', D, overM M km', hs, [LoopC P G n ro body D (ts.map fun t => (t, slot T t)) km nxt e kn' km'])
    | none => none
  else none
noncomputable def hcodeF (P : Program) (G : Globals) (E : HEx) (n : Nat) (ro : Option Nat) (c : Code) (T : Tr Value) (D : List Nat) (M : AMem) (hs : List Hint) : HC :=
  match c with
  | .skip => some (.normal, T, D, M, hs, [])
  | .label _ => some (.normal, T, D, M, hs, [])
  | .region _ ops draw => match (bif draw then oregionD P G E n ops.toList hs T M else oregion P G E n ops.toList hs T M) with
    | some (T', M', hs', R) => some (.normal, T', D, M', hs', R)
    | none => none
  | .seq a b => match E.code n ro a T D M hs with
    | some (.normal, T', D', M', hs', R) => match E.code n ro b T' D' M' hs' with
      | some (e, T2, D2, M2, hs2, R2) => some (e, T2, D2, M2, hs2, R ++ R2)
      | none => none
    | r => r
  | .cond c a b => match acond T c with
    | some true => E.code n ro a T D M hs
    | some false => E.code n ro b T D M hs
    | none => none
  | .block id body => match E.code n ro body T D M hs with
    | some (.exit id', T', D', M', hs', R) => bif Nat.beq id' id then some (.normal, T', D', M', hs', R) else some (.exit id', T', D', M', hs', R)
    | r => r
  | .loop body => match hlc hs with
    | some (ts, bs, nxt, e, kn', km', hs') => hloopC P G n ro body T D M ts bs nxt e kn' km' hs'
    | none => match E.code n ro body T D M hs with
      | some (.normal, T', D', M', hs', R) => match E.code n ro (.loop body) T' D' M' hs' with
        | some (e, T2, D2, M2, hs2, R2) => some (e, T2, D2, M2, hs2, R ++ R2)
        | none => none
      | r => r
  | .scope body => E.code n ro body T D M hs
  | .exit id => some (.exit id, T, D, M, hs, [])
  | .ret => some (.ret, T, D, M, hs, [])
  | .rangeFunc g ps assign body => hrangeFunc P E n ro g ps assign body T D M hs
  | _ => none
noncomputable def HEx.next (P : Program) (G : Globals) (E : HEx) : HEx := ⟨hcodeF P G E, hcallF P E, hroundF E⟩
noncomputable def hexec (P : Program) (G : Globals) (k : Nat) : HEx := Nat.rec (motive := fun _ => HEx) HEx.none (fun _ E => HEx.next P G E) k

section
variable {P : Program} {N : Prot} {w0 : World} {ρ : Emb} {M : AMem} {w : World}
theorem PostJ.le {ρ' : Emb} (hl : ρ.le ρ') {n : Nat} {e : AEx} {T : Tr Value} {D : List Nat} {e' : Exit} {a' : Act} {w' : World} (h : PostJ N w0 ρ' n e T D M e' a' w') : PostJ N w0 ρ n e T D M e' a' w' :=
  let ⟨h1, ρ2, h2, h3⟩ := h; ⟨h1, ρ2, hl.trans h2, h3⟩
theorem PostJ.noGoto {n : Nat} {e : AEx} {T : Tr Value} {D : List Nat} : ∀ e' a' w', PostJ N w0 ρ n e T D M e' a' w' → noGoto (PostJ N w0 ρ n e T D M) e' a' w' := by
  intro e' a' w' h
  cases e' with
  | goto l => obtain ⟨h, _⟩ := h; cases e <;> cases h
  | _ => exact h
theorem hknown_at {T : Tr Value} : ∀ (n : Nat), hknown T n = true → ∀ t, t < n → isJunk (slot T t) = false := by
  intro n
  induction n with
  | zero => intro _ t h; omega
  | succ n ih =>
    intro h t ht
    have h' : (!isJunk (slot T n) && hknown T n) = true := h
    rw [Bool.and_eq_true, Bool.not_eq_true'] at h'
    by_cases e : t = n
    · rw [e]; exact h'.1
    · exact ih h'.2 t (by omega)
theorem TJ.retab {n : Nat} {T : Tr Value} {a : Array Value} (h : TJ ρ n T a) (hk : hknown T n = true) : TR ρ n (retab n T) a := by
  refine ⟨h.1, h.2.1, fun t => ?_⟩
  rw [retab_slot n T h.2.1]
  by_cases ht : t < n
  · rw [if_pos ht]; exact (h.2.2 t).known (hknown_at n hk t ht)
  · rw [if_neg ht]
    have : a.getD t undef = undef := by
      rw [Array.getD_eq_getD_getElem?, Array.getElem?_eq_none (by rw [h.1]; omega)]
      rfl
    rw [this]
    exact undefR
theorem gok_RJ {n : Nat} {T : Tr Value} {a : Act} (ht : TJ ρ n T a.tmps) {g : Operand} (h : gok g = true) {f : Fn} {x y : Array Value} (hg : aenv T g = .func f x y) : VR ρ (aenv T g) (a.eval g) := by
  cases g with
  | tmp t => exact (ht.2.2 t).known (by
      have hg : slot T t = .func f x y := hg
      rw [hg]
      rfl)
  | func f => exact .func _ _ _ _ _ (fun k e => by cases e) .nil .nil
  | const v => cases h
  | global g => cases h
theorem hloop_sound {G : Globals} {E : HEx} (hE : HSound P G E) (hf : Fine G N w0) {n : Nat} {ro : Option Nat} {c : Code} {T : Tr Value} {D : List Nat} {hs : List Hint} {e : AEx} {T' : Tr Value} {D' : List Nat} {M' : AMem} {hs' : List Hint} {R : List Prop}
    (h : hcodeF P G E n ro (.loop c) T D M hs = some (e, T', D', M', hs', R)) (hR : All R) {a : Act} {ro' : Option Nat} (hr : Rel N w0 ρ M w) (ht : TJ ρ n T a.tmps) (hd : DR ρ D a.defers) (hro : RoR ρ ro ro')
    (b : Frame) (q : List Item) (cs : List Frame) (hb : b.roundOf = ro') : ∃ e' a' w', PostJ N w0 ρ n e T' D' M' e' a' w' ∧ ArrivesIn (Machine.fenced P (fen ro')) P (lone (b.atR a (.code c :: .inLoop c :: q)) cs w) b q cs e' a' w' := by
  simp only [hcodeF] at h
  split at h
  · unfold hloopC at h
    obtain ⟨_, h⟩ := cond_some h
    split at h
    rotate_left
    · cases h
    rename_i km hkm
    cases h
    exact LoopC.use hf hkm hR.1 hr ht hd hro b q cs hb
  split at h
  · rename_i T1 D1 M1 hs1 R1 hc
    split at h
    rotate_left
    · cases h
    rename_i e2 T2 D2 M2 hs2 R2 hc2
    cases h
    rw [All.append] at hR
    obtain ⟨e1, a1, w1, ⟨rfl, ρ1, hle, hr1, ht1, hd1⟩, harr⟩ := hE.code _ _ _ _ _ _ _ _ _ _ _ _ _ hc hR.1 N w0 hf ρ w a ro' 0 hr ht hd hro b (.inLoop c :: q) cs hb trivial (fen_room _ _)
    obtain ⟨e2, a2, w2, hp2, harr2⟩ := hE.loop _ _ _ _ _ _ _ _ _ _ _ _ _ hc2 hR.2 N w0 hf ρ1 w1 a1 ro' hr1 ht1 hd1 (hro.mono hle) b q cs hb
    exact ⟨e2, a2, w2, hp2.le hle, .of_steps (StepsIn.trans harr (.one (fenced_calm (n := 0) trivial (fen_room _ _) rfl) stepR_inLoop)) harr2⟩
  · rename_i hne
    obtain ⟨e1, a1, w1, hp, harr⟩ := hE.code _ _ _ _ _ _ _ _ _ _ _ _ _ h hR N w0 hf ρ w a ro' 0 hr ht hd hro b (.inLoop c :: q) cs hb trivial (fen_room _ _)
    refine ⟨e1, a1, w1, hp, .pass (x := .inLoop c) rfl (fun _ _ => .inl ?_) harr⟩
    obtain ⟨rfl, _⟩ := hp
    intro he
    cases e with
    | normal => exact hne _ _ _ _ _ h
    | ret => cases he
    | exit id => cases he
theorem hrangeFunc_sound {G : Globals} {E : HEx} (hE : HSound P G E) (hf : Fine G N w0) {n : Nat} {ro : Option Nat} {g : Operand} {ps : Array Tmp} {assign body : Code} {T : Tr Value} {D : List Nat} {hs : List Hint} {e : AEx} {T' : Tr Value} {D' : List Nat} {M' : AMem} {hs' : List Hint} {R : List Prop}
    (h : hrangeFunc P E n ro g ps assign body T D M hs = some (e, T', D', M', hs', R)) (hR : All R) {a : Act} {ro' : Option Nat} (k : Nat) (hr : Rel N w0 ρ M w) (ht : TJ ρ n T a.tmps) (hd : DR ρ D a.defers) (hro : RoR ρ ro ro') :
    (Code.rangeFunc g ps assign body).wpIn (fen ro') k P (PostJ N w0 ρ n e T' D' M') a w := by
  unfold hrangeFunc at h
  obtain ⟨hgk, h⟩ := cond_some h
  rw [Bool.and_eq_true] at hgk
  split at h
  rotate_left
  · cases h
  rename_i D1 lb M1 hent
  split at h
  rotate_left
  · cases h
  rename_i f first cap hcal
  split at h
  rotate_left
  · cases h
  rename_i hok
  split at h
  rotate_left
  · cases h
  rename_i v M2 hs2 R2 hcall
  refine wpIn_rangeFunc fun fn _ => ?_
  obtain ⟨l, mark, w1, ρ1, hle1, hrun, hr1, hlb, hd1⟩ := aenter_sound (P := P) hent hr (ht.retab hgk.2) hd hro fn
  have hgR := gok_RJ ht hgk.1 hcal
  rw [hcal] at hgR
  generalize hx : a.eval g = x at hgR
  cases hgR with
  | flat _ hf => exact Bool.noConfusion (show false = true from hf)
  | func _ _ _ a' c' hy h1 h2 =>
    obtain ⟨d, hd2, hinv⟩ := range_callee hx hok l w1
    refine ⟨l, mark, w1, d, w1, f, _, w1, hrun, hd2, fun _ _ => trivial, hinv, fun h => absurd h (by rw [fen_depth]; simp), ?_⟩
    have hargs : VRs ρ1 (first ++ #[Value.func (.yield lb) #[] #[]] ++ cap).toList (a' ++ #[Value.func (.yield l) #[] #[]] ++ c').toList := by
      simp only [Array.toList_append]
      exact ((h1.mono hle1).append (.cons _ _ _ _ (.yield lb l hlb) .nil)).append (h2.mono hle1)
    have hR2 : All R2 := by
      split at h
      · cases h; exact hR
      · split at h
        · cases h; exact (All.append.1 hR).1
        · cases h
      · cases h
    refine (hE.call _ _ _ _ _ _ _ _ hcall hR2 N w0 hf ρ1 w1 _ ro' (k - 1) hr1 hargs).mono ?_
    rintro e1 w2 ⟨ρ2, v', hle2, rfl, hv, hr2⟩
    have hle := hle1.trans hle2
    split at h
    · rename_i M3 hlv
      cases h
      obtain ⟨w3, h3, hr3⟩ := aleave_sound (P := P) hlv hr2 (hle2 _ _ hlb)
      exact ⟨none, w3, h3, rfl, ρ2, hle, hr3, ht.mono hle, hd1.mono hle2⟩
    · rename_i c M3 hlv
      split at h
      rotate_left
      · cases h
      rename_i e4 T4 D4 M4 hs4 R4 hc4
      cases h
      obtain ⟨w3, h3, hr3⟩ := aleave_sound (P := P) hlv hr2 (hle2 _ _ hlb)
      refine ⟨some c, w3, h3, ?_⟩
      refine wpIn_mono (hE.code _ _ _ _ _ _ _ _ _ _ _ _ _ hc4 (All.append.1 hR).2 N w0 hf ρ2 w3 _ ro' k hr3 (ht.mono hle) (hd1.mono hle2) (hro.mono hle)) fun _ _ _ hp => hp.le hle
    · cases h
theorem acond_soundJ' {n : Nat} {T : Tr Value} {a : Act} (ht : TJ ρ n T a.tmps) {c : Operand} {b : Bool} (h : acond T c = some b) : a.eval c = .bool b := by
  unfold acond at h
  split at h
  · rename_i hg
    split at h
    · rename_i b' hb
      cases h
      cases c with
      | tmp t =>
        have := (ht.2.2 t).known (by
          have hb : slot T t = .bool b := hb
          rw [hb]
          rfl)
        have hb : slot T t = .bool b := hb
        rw [hb] at this
        exact this.flat_eq rfl
      | func f => cases hb
      | const v => cases hg
      | global g => cases hg
    · cases h
  · split at h
    · cases h; rfl
    · cases h
theorem hcode_sound (hz : PF P) {G : Globals} {E : HEx} (hE : HSound P G E) (hf : Fine G N w0) {n : Nat} {ro : Option Nat} {c : Code} {T : Tr Value} {D : List Nat} {hs : List Hint} {e : AEx} {T' : Tr Value} {D' : List Nat} {M' : AMem} {hs' : List Hint} {R : List Prop}
    (h : hcodeF P G E n ro c T D M hs = some (e, T', D', M', hs', R)) (hR : All R) {a : Act} {ro' : Option Nat} (k : Nat) (hr : Rel N w0 ρ M w) (ht : TJ ρ n T a.tmps) (hd : DR ρ D a.defers) (hro : RoR ρ ro ro') :
    c.wpIn (fen ro') k P (PostJ N w0 ρ n e T' D' M') a w := by
  have elder := h
  cases c with
  | skip => cases h; exact wpIn_skip ⟨rfl, ρ, Emb.le.refl _, hr, ht, hd⟩
  | label l => cases h; exact wpIn_label ⟨rfl, ρ, Emb.le.refl _, hr, ht, hd⟩
  | exit id => cases h; exact wpIn_exit ⟨rfl, ρ, Emb.le.refl _, hr, ht, hd⟩
  | ret => cases h; exact wpIn_ret ⟨rfl, ρ, Emb.le.refl _, hr, ht, hd⟩
  | goto l => cases h
  | refuse s => cases h
  | region id ops draw =>
    simp only [hcodeF] at h
    split at h
    rotate_left
    · cases h
    rename_i T1 M1 hs1 R1 hrg
    cases h
    cases draw with
    | true => exact oregionD_sound hz hE hz.mixed hf hrg hR hr ht fun ρ' a' w' hle hr' ht' hde => ⟨rfl, ρ', hle, hr', ht', by rw [hde]; exact hd.mono hle⟩
    | false => exact oregion_sound hz hE hf hrg hR hr ht fun ρ' a' w' hle hr' ht' hde => ⟨rfl, ρ', hle, hr', ht', by rw [hde]; exact hd.mono hle⟩
  | seq x y =>
    simp only [hcodeF] at h
    refine wpIn_seq ?_
    split at h
    · rename_i T1 D1 M1 hs1 R1 hc
      split at h
      rotate_left
      · cases h
      rename_i e2 T2 D2 M2 hs2 R2 hc2
      cases h
      rw [All.append] at hR
      refine wpIn_mono (hE.code _ _ _ _ _ _ _ _ _ _ _ _ _ hc hR.1 N w0 hf ρ w a ro' k hr ht hd hro) ?_
      rintro e1 a1 w1 ⟨rfl, ρ1, hle, hr1, ht1, hd1⟩
      exact wpIn_mono (hE.code _ _ _ _ _ _ _ _ _ _ _ _ _ hc2 hR.2 N w0 hf ρ1 w1 a1 ro' k hr1 ht1 hd1 (hro.mono hle)) fun _ _ _ hp => hp.le hle
    · rename_i hne
      refine wpIn_mono (hE.code _ _ _ _ _ _ _ _ _ _ _ _ _ h hR N w0 hf ρ w a ro' k hr ht hd hro) ?_
      rintro e1 a1 w1 hp
      have hp' := hp
      obtain ⟨rfl, _⟩ := hp
      cases e with
      | normal => exact (hne _ _ _ _ _ h).elim
      | ret => exact hp'
      | exit id => exact hp'
  | cond c x y =>
    simp only [hcodeF] at h
    split at h
    · rename_i hc
      exact wpIn_cond_true (acond_soundJ' ht hc) (hE.code _ _ _ _ _ _ _ _ _ _ _ _ _ h hR N w0 hf ρ w a ro' k hr ht hd hro)
    · rename_i hc
      exact wpIn_cond_false (acond_soundJ' ht hc) (hE.code _ _ _ _ _ _ _ _ _ _ _ _ _ h hR N w0 hf ρ w a ro' k hr ht hd hro)
    · cases h
  | block id body =>
    simp only [hcodeF] at h
    refine wpIn_block ?_
    split at h
    · rename_i id' T1 D1 M1 hs1 R1 hc
      have hR1 : All R1 := by
        cases hb : Nat.beq id' id with
        | true => rw [hb] at h; cases h; exact hR
        | false => rw [hb] at h; cases h; exact hR
      refine wpIn_mono (hE.code _ _ _ _ _ _ _ _ _ _ _ _ _ hc hR1 N w0 hf ρ w a ro' k hr ht hd hro) ?_
      rintro e1 a1 w1 ⟨rfl, hrest⟩
      simp only [toExit, Exit.inBlock]
      cases hb : Nat.beq id' id with
      | true =>
        rw [hb] at h
        cases h
        rw [if_pos (Nat.eq_of_beq_eq_true hb)]
        exact ⟨rfl, hrest⟩
      | false =>
        rw [hb] at h
        cases h
        rw [if_neg (fun e => by rw [e, Nat.beq_refl] at hb; cases hb)]
        exact ⟨rfl, hrest⟩
    · rename_i hne
      refine wpIn_mono (hE.code _ _ _ _ _ _ _ _ _ _ _ _ _ h hR N w0 hf ρ w a ro' k hr ht hd hro) ?_
      rintro e1 a1 w1 hp
      have hp' := hp
      obtain ⟨rfl, _⟩ := hp
      cases e with
      | normal => exact hp'
      | ret => exact hp'
      | exit id' => exact (hne _ _ _ _ _ _ h).elim
  | loop body =>
    intro b q cs hb _ _
    obtain ⟨e1, a1, w1, hp, harr⟩ := hloop_sound hE hf elder hR hr ht hd hro b q cs hb
    exact ⟨e1, a1, w1, hp, .of_steps (.one (fenced_calm (n := 0) trivial (fen_room _ _) rfl) stepR_loop) harr⟩
  | scope body =>
    exact wpIn_scope_straight (wpIn_mono (hE.code _ _ _ _ _ _ _ _ _ _ _ _ _ h hR N w0 hf ρ w a ro' k hr ht hd hro) fun _ _ _ hp => PostJ.noGoto _ _ _ hp)
  | rangeFunc g ps assign body => exact hrangeFunc_sound hE hf h hR k hr ht hd hro
theorem hresl_sound {n : Nat} {T : Tr Value} {tmps : Array Value} (hr : Rel N w0 ρ M w) (ht : TJ ρ n T tmps) : ∀ (l : List ResultVar) (vs : List Value), hres1.knownResH T l = true → aresl P T M l = some vs →
    ∃ vs', VRs ρ vs vs' ∧ (l.mapM (readRes tmps)).run P w = .ok vs' w := by
  intro l
  induction l with
  | nil => intro vs _ h; cases h; exact ⟨[], .nil, rfl⟩
  | cons r l ih =>
    intro vs hk h
    unfold hres1.knownResH at hk
    rw [List.all_cons, Bool.and_eq_true] at hk
    have key : ∀ (v v' : Value) (vs1 : List Value), VR ρ v v' → vs = v :: vs1 → aresl P T M l = some vs1 → (readRes tmps r).run P w = .ok v' w →
        ∃ vs', VRs ρ vs vs' ∧ ((r :: l).mapM (readRes tmps)).run P w = .ok vs' w := by
      intro v v' vs1 hv hvs h1 h2
      obtain ⟨vs', h3, h4⟩ := ih vs1 hk.2 h1
      refine ⟨v' :: vs', by rw [hvs]; exact .cons _ _ _ _ hv h3, ?_⟩
      rw [List.mapM_cons, Sem.run_bind, h2]
      simp only [Result.andThen_ok, Sem.run_bind, h4, Sem.run_pure]
    rw [aresl_cons] at h
    cases r with
    | tmp t =>
      simp only at h
      split at h
      rotate_left
      · cases h
      rename_i vs1 h1
      cases h
      exact key _ _ vs1 ((ht.2.2 t).known (by simpa using hk.1)) rfl h1 rfl
    | cell a t =>
      simp only at h
      split at h
      rotate_left
      · cases h
      rename_i p hp
      split at h
      rotate_left
      · cases h
      rename_i v M1 hl
      split at h
      rotate_left
      · cases h
      rename_i vs1 hlim h1
      cases h
      have hlim : Nat.succ M1.nxt ≤ bigger := by simpa using hlim
      have hpr := (ht.2.2 a).known (by simpa using hk.1)
      rw [hp] at hpr
      obtain ⟨l', hl', hs, he⟩ := hpr.ptr_inv
      have hsr := SR.loadVar (q := True) (P := P) (N := N) (w0 := w0) t (he ▸ hpr)
      obtain ⟨ρ', v', w', k1, k2, k3, k4, k5⟩ := hsr M w v M1 hr hl hlim
      obtain ⟨e1, e2, e3⟩ := k5 trivial
      rw [e3] at k3
      rw [e2] at k2
      refine key v v' vs1 k3 rfl h1 ?_
      unfold readRes
      simp only [he, asAddr, Sem.run_bind, Sem.run_pure, Result.andThen_ok, k2]
theorem hres1_sound {n : Nat} {T : Tr Value} {tmps : Array Value} {fn : Func} (hr : Rel N w0 ρ M w) (ht : TJ ρ n T tmps) {v : Value} (h : hres1 P fn T M = some v) : ∃ v', VR ρ v v' ∧ (results fn tmps).run P w = .ok v' w := by
  unfold hres1 at h
  obtain ⟨hk, hv⟩ := cond_some h
  unfold aresults at hv
  split at hv
  rotate_left
  · cases hv
  rename_i vs hvs
  cases hv
  obtain ⟨vs', h1, h2⟩ := hresl_sound hr ht _ _ hk hvs
  have hm : (fn.results.mapM (readRes tmps)).run P w = .ok vs'.toArray w := by
    rw [Array.mapM_eq_mapM_toList, Sem.run_map, h2]
    rfl
  have hres : results fn tmps = (do let vs ← fn.results.mapM (readRes tmps); pure (if h : vs.size = 1 then vs[0] else .tuple vs)) := by
    unfold results
    have : (fun r : ResultVar => (match r with
      | .tmp t => pure (tmps.getD t undef)
      | .cell a t => do Go.loadVar t (← asAddr (tmps.getD a undef)) : Sem Value)) = readRes tmps := by
      funext r
      cases r <;> rfl
    rw [← this]
    rfl
  refine ⟨pack vs', ?_, ?_⟩
  · cases h1 with
    | nil => exact .tuple _ _ .nil
    | cons _ _ _ _ g hs => cases hs with
      | nil => exact g
      | cons _ _ _ _ g' hs' => exact .tuple _ _ (by simpa [pack] using VRs.cons _ _ _ _ g (.cons _ _ _ _ g' hs'))
  · rw [hres, Sem.run_bind, hm]
    simp only [Result.andThen_ok, Sem.run_pure]
    congr 1
    cases vs' with
    | nil => rfl
    | cons a l => cases l with
      | nil => rfl
      | cons b l => simp [pack]
theorem hcall_sound {G : Globals} {E : HEx} (hE : HSound P G E) (hf : Fine G N w0) {f : FuncId} {args : Array Value} {hs : List Hint} {v : Value} {M' : AMem} {hs' : List Hint} {R : List Prop} (h : hcallF P E f args M hs = some (v, M', hs', R)) (hR : All R) (hr : Rel N w0 ρ M w) {args' : Array Value} {ro' : Option Nat} {k : Nat}
    (hargs : VRs ρ args.toList args'.toList) : CallsIn (fen ro') k P f args' w (PostF N w0 ρ v M') := by
  unfold hcallF at h
  split at h
  rotate_left
  · cases h
  rename_i fn hfn
  split at h
  rotate_left
  · cases h
  rename_i c hb
  obtain ⟨hlim, h⟩ := cond_some h
  have hlim : Nat.succ (args.toList.length + (fn.ntmps - args.toList.length)) ≤ bigger := by simpa using hlim
  have ht := TJ.of (args_TR hargs fn.ntmps hlim)
  have key : ∀ (e : AEx) (T1 : Tr Value) (D1 : List Nat) (M1 M2 : AMem) (hs1 : List Hint), (e = .normal ∨ e = .ret) → E.code (args.toList.length + (fn.ntmps - args.toList.length)) none c (argsT args.toList 0 .nil) [] M hs = some (e, T1, D1, M1, hs1, R) →
      killD D1 M1 = some M2 → hres1 P fn T1 M2 = some v → M2 = M' → CallsIn (fen none) k P f args' w (PostF N w0 ρ v M') := by
    intro e T1 D1 M1 M2 hs1 he hc hk hres hM
    subst hM
    refine callsIn_of_wp_marks hfn hb trivial ?_
    refine wpIn_mono (hE.code _ _ _ _ _ _ _ _ _ _ _ _ _ hc hR N w0 hf ρ w _ none k hr ht trivial trivial) ?_
    rintro e1 a1 w1 ⟨rfl, ρ1, hle, hr1, ht1, hd1⟩
    have : LeavesInM (fen none) k P fn a1.tmps (PostF N w0 ρ v M2) a1.defers .returning w1 := by
      refine killD_sound _ _ _ _ _ hk hr1 hd1 fun w2 hr2 => ?_
      obtain ⟨v', hv, hrun⟩ := hres1_sound hr2 ht1 hres
      exact ⟨v', hrun, ρ1, v', hle, rfl, hv, hr2⟩
    rcases he with rfl | rfl
    · exact this
    · exact this
  have : CallsIn (fen none) k P f args' w (PostF N w0 ρ v M') := by
    split at h
    · rename_i T1 D1 M1 hs1 R1 hc
      split at h
      rotate_left
      · cases h
      rename_i M2 hk
      split at h
      rotate_left
      · cases h
      rename_i v1 hres
      cases h
      exact key _ _ _ _ _ _ (.inl rfl) hc hk hres rfl
    · rename_i T1 D1 M1 hs1 R1 hc
      split at h
      rotate_left
      · cases h
      rename_i M2 hk
      split at h
      rotate_left
      · cases h
      rename_i v1 hres
      cases h
      exact key _ _ _ _ _ _ (.inr rfl) hc hk hres rfl
    · cases h
  exact this
theorem hround_sound {G : Globals} {E : HEx} (hE : HSound P G E) (hf : Fine G N w0) {b : Nat} {args : Array Value} {hs : List Hint} {v : Value} {M' : AMem} {hs' : List Hint} {R : List Prop} (h : hroundF E b args M hs = some (v, M', hs', R)) (hR : All R) (hr : Rel N w0 ρ M w) {args' : Array Value} {B : Nat} {ro' : Option Nat} {k : Nat}
    (hargs : VRs ρ args.toList args'.toList) (hB : ρ b = some ⟨B, 0, 0, 0⟩) :
    ∃ f tmps assign body, (Instr.yield B args').run P w = .ok (.round B f tmps assign body) w ∧ RoundIn (fen ro') k P B f tmps assign body w (PostF N w0 ρ v M') := by
  unfold hroundF at h
  split at h
  rotate_left
  · cases h
  rename_i l hg
  obtain ⟨hsz, h⟩ := cond_some h
  have hsz : args.toList.length = l.params.toList.length := Nat.eq_of_beq_eq_true hsz
  split at h
  rotate_left
  · cases h
  rename_i T hT
  split at h
  rotate_left
  · cases h
  rename_i T1 D1 M1 hs1 R1 hassign
  split at h
  rotate_left
  · cases h
  rename_i l1 hg1
  split at h
  rotate_left
  · cases h
  rename_i hst
  split at h
  rotate_left
  · cases h
  rename_i e T3 D3 M3 hs3 R3 hbody
  split at h
  rotate_left
  · cases h
  rename_i v4 M4 hend0
  cases h
  rw [All.append] at hR
  obtain ⟨B', r, hB', hw, h1, h2, h3, h4, h5, h6, h7⟩ := hr.loop hg
  rw [hB] at hB'
  cases hB'
  have hlen := hargs.length
  refine ⟨r.fn, _, r.assign, r.body, run_yield hw (by rw [h4]; simp only [Array.length_toList] at hsz hlen; omega), ?_⟩
  have htm : TR ρ l.n T ((r.params.zip args').foldl (fun tmps (t, a) => tmps.setIfInBounds t a) r.tmps) := by
    obtain ⟨z1, z2⟩ := zip_parts l.params.toList _ _ hargs hsz.symm
    have := setParams_sound _ (l.params.toList.zip args'.toList) _ _ r.tmps hT z1 z2 h3
    rw [h4]
    rw [← Array.foldl_toList, Array.toList_zip]
    exact this
  refine roundIn_of_wpIn trivial ?_
  rw [h5]
  refine wpIn_mono (hE.code _ _ _ _ _ _ _ _ _ _ _ _ _ hassign hR.1 N w0 hf ρ w { tmps := (r.params.zip args').foldl (fun tmps (t, a) => tmps.setIfInBounds t a) r.tmps, defers := [] } (some B) k hr (TJ.of htm) trivial hB) ?_
  rintro e1 a1 w1 ⟨rfl, ρ1, hle1, hr1, ht1, hd1⟩
  obtain ⟨B1, r1, hB1, hw1, k1, k2, k3, k4, k5, k6, k7⟩ := hr1.loop hg1
  rw [hle1 _ _ hB] at hB1
  cases hB1
  have hr2 := hr1.setLoop (l2 := { l1 with st := .busy }) (r2 := { r1 with state := .busy }) hg1 (hle1 _ _ hB) hw1 ⟨_, rfl, rfl, k2, k3, k4, k5, k6, k7⟩
  refine ⟨_, run_beginRound hw1 (by rw [k1]; exact hst), ?_⟩
  rw [h6]
  refine wpIn_mono (hE.code _ _ _ _ _ _ _ _ _ _ _ _ _ hbody hR.2 N w0 hf ρ1 _ a1 (some B) k hr2 ht1 hd1 (hle1 _ _ hB)) ?_
  rintro e2 a2 w2 ⟨rfl, ρ2, hle2, hr3, ht3, hd3⟩
  unfold aendRound at hend0
  split at hend0
  rotate_left
  · cases hend0
  rename_i l2 hg2
  obtain ⟨B2, r2, hB2, hw2, j1, j2, j3, j4, j5, j6, j7⟩ := hr3.loop hg2
  rw [hle2 _ _ (hle1 _ _ hB)] at hB2
  cases hB2
  have hend : ∀ (st : LoopState) (jump : Option Code), (if jump.isNone then LoopState.ready else .done) = st → v = .bool jump.isNone → M' = M3.set b (.loop { l2 with st := st, pend := jump }) →
      ∃ v' w', (Instr.endRound B jump).run P w2 = .ok v' w' ∧ PostF N w0 ρ v M' (.returned v') w' := by
    intro st jump hs hv hM
    refine ⟨_, _, run_endRound jump hw2, ρ2, .bool jump.isNone, hle1.trans hle2, rfl, by rw [hv]; exact .flat _ rfl, ?_⟩
    rw [hM]
    exact hr3.setLoop hg2 (hle2 _ _ (hle1 _ _ hB)) hw2 ⟨_, rfl, hs, rfl, j3, j4, j5, j6, j7⟩
  cases e with
  | normal => simp only at hend0; cases hend0; exact hend .ready none rfl rfl rfl
  | ret => simp only at hend0; cases hend0; exact hend .done (some .ret) rfl rfl rfl
  | exit id => simp only at hend0; cases hend0; exact hend .done (some (.exit id)) rfl rfl rfl
theorem hnext_sound (hz : PF P) {G : Globals} {E : HEx} (hE : HSound P G E) : HSound P G (HEx.next P G E) where
  code := fun _ _ _ _ _ _ _ _ _ _ _ _ _ h hR _ _ hf _ _ _ _ k hr ht hd hro => hcode_sound hz hE hf h hR k hr ht hd hro
  loop := fun _ _ _ _ _ _ _ _ _ _ _ _ _ h hR _ _ hf _ _ _ _ hr ht hd hro b q cs hb => hloop_sound hE hf h hR hr ht hd hro b q cs hb
  call := fun _ _ _ _ _ _ _ _ h hR _ _ hf _ _ _ _ _ hr hargs => hcall_sound hE hf h hR hr hargs
  round := fun _ _ _ _ _ _ _ _ h hR _ _ hf _ _ _ _ _ _ hr hargs hB => hround_sound hE hf h hR hr hargs hB
theorem hexec_sound (hz : PF P) {G : Globals} : ∀ k, HSound P G (hexec P G k)
  | 0 => HEx.none_sound
  | k + 1 => hnext_sound hz (hexec_sound hz k)
end
end Go.Sim
namespace Go.Sim
open Go.RowKit

/-! ### What is left to run -/
inductive KI where
  | code (c : Code)
  | blk (id : Nat)
  | lp (b : Code)
  | scp
noncomputable def unwindTo (id : Nat) (K : List KI) : Option (List KI) :=
  List.rec (motive := fun _ => Option (List KI)) none (fun i K ih => match i with
    | .blk id' => bif Nat.beq id id' then some K else ih
    | _ => ih) K
inductive KOut where
  | stop (K : List KI) (kn : List (Nat × Value)) (km : List (Nat × AObj)) (R : List Prop)
  | done (v : Value) (R : List Prop)
inductive SHint where
  | op (h : Hint)
  | go
  | st (ts bs : List Nat)
def KOut.R : KOut → List Prop
  | .stop _ _ _ R => R
  | .done _ R => R
def kadd (R : List Prop) : Option KOut → Option KOut
  | some (.stop K kn km R') => some (.stop K kn km (R ++ R'))
  | some (.done v R') => some (.done v (R ++ R'))
  | none => none
noncomputable def knownRV (T : Tr Value) (r : ResultVar) : Bool :=
  match r with
  | .tmp t => !isJunk (slot T t)
  | .cell a _ => !isJunk (slot T a)
noncomputable def knownRes (T : Tr Value) (l : List ResultVar) : Bool := l.all (knownRV T)
noncomputable def kdone (P : Program) (fn : Func) (T : Tr Value) (M : AMem) : Option KOut :=
  bif knownRes T fn.results.toList then match aresults P fn T M with
    | some v => some (.done v [])
    | none => none
  else none
noncomputable def klp (cont : List SHint → Option KOut) (K : List KI) (ss : List SHint) (T : Tr Value) (M : AMem) : Option KOut :=
  match ss with
  | .go :: ss => cont ss
  | .st ts bs :: _ => bif knownAll T ts then match takeAll M bs with
      | some km => some (.stop K (ts.map fun t => (t, slot T t)) km [])
      | none => none
    else none
  | _ => none
/-- Hints for operations go up to a region's end; the rest is handed on. -/
noncomputable def runK (P : Program) (G : Globals) (n : Nat) (fn : Func) (fuel : Nat) : List KI → List Hint → List SHint → Tr Value → AMem → Option KOut :=
  Nat.rec (motive := fun _ => List KI → List Hint → List SHint → Tr Value → AMem → Option KOut) (fun _ _ _ _ _ => none)
    (fun _ ih K hs ss T M => match K with
      | [] => kdone P fn T M
      | .blk _ :: K => ih K hs ss T M
      | .scp :: K => ih K hs ss T M
      | .lp b :: K => klp (fun ss => ih (.code b :: .lp b :: K) hs ss T M) (.lp b :: K) ss T M
      | .code c :: K => match c with
        | .skip => ih K hs ss T M
        | .label _ => ih K hs ss T M
        | .seq x y => ih (.code x :: .code y :: K) hs ss T M
        | .region _ ops draw => match (bif draw then oregionD P G (hexec P G 60) n ops.toList hs T M else oregion P G (hexec P G 60) n ops.toList hs T M) with
          | some (T', M', hs', R) => kadd R (ih K hs' ss T' M')
          | none => none
        | .cond x a b => match acond T x with
          | some true => ih (.code a :: K) hs ss T M
          | some false => ih (.code b :: K) hs ss T M
          | none => none
        | .block id b => ih (.code b :: .blk id :: K) hs ss T M
        | .loop b => ih (.lp b :: K) hs ss T M
        | .scope b => ih (.code b :: .scp :: K) hs ss T M
        | .exit id => match unwindTo id K with
          | some K => ih K hs ss T M
          | none => none
        | .ret => kdone P fn T M
        | _ => none) fuel

/-! ### What it says of worlds -/
def LoopW (F : Fence) (k : Nat) (P : Program) (b : Code) (Q : Exit → Act → World → Prop) (a : Act) (w : World) : Prop :=
  ∀ (fr : Frame) (q : List Item) (cs : List Frame), fr.roundOf = F.round → F.fn fr.fn → F.room (cs.length + 1 + k) →
    ∃ e' a' w', Q e' a' w' ∧ ArrivesIn (Machine.fenced P F) P (lone (fr.atR a (.code b :: .inLoop b :: q)) cs w) fr q cs e' a' w'
def KW (F : Fence) (k : Nat) (P : Program) (Q : Exit → Act → World → Prop) : List KI → Exit → Act → World → Prop
  | [] => Q
  | .code c :: K => fun e a w => match e with
    | .normal => c.wpIn F k P (KW F k P Q K) a w
    | e => KW F k P Q K e a w
  | .blk id :: K => Exit.inBlock id (KW F k P Q K)
  | .lp b :: K => fun e a w => match e with
    | .normal => LoopW F k P b (KW F k P Q K) a w
    | e => KW F k P Q K e a w
  | .scp :: K => noGoto (KW F k P Q K)
section
variable {P : Program} {N : Prot} {w0 : World} {ρ : Emb} {M : AMem} {w : World}
theorem LoopW.step {F : Fence} {k : Nat} {b : Code} {Q : Exit → Act → World → Prop} {a : Act} (h : b.wpIn F k P (fun e a w => match e with | .normal => LoopW F k P b Q a w | e => Q e a w) a w) : LoopW F k P b Q a w := by
  intro fr q cs h1 h2 h3
  obtain ⟨e, a1, w1, hq, harr⟩ := h fr (.inLoop b :: q) cs h1 h2 h3
  cases e with
  | normal =>
    obtain ⟨e2, a2, w2, hq2, harr2⟩ := hq fr q cs h1 h2 h3
    exact ⟨e2, a2, w2, hq2, .of_steps (StepsIn.trans harr (.one (fenced_calm h2 h3 rfl) stepR_inLoop)) harr2⟩
  | exit id => exact ⟨_, a1, w1, hq, .pass (x := .inLoop b) rfl (fun _ _ => .inl (by simp)) harr⟩
  | goto l => exact ⟨_, a1, w1, hq, .pass (x := .inLoop b) rfl (fun _ _ => .inl (by simp)) harr⟩
  | ret => exact ⟨_, a1, w1, hq, .pass (x := .inLoop b) rfl (fun _ _ => .inl (by simp)) harr⟩
  | panic ch => exact ⟨_, a1, w1, hq, .pass (x := .inLoop b) rfl (fun _ _ => .inl (by simp)) harr⟩
  | outgrown => exact ⟨_, a1, w1, hq, .pass (x := .inLoop b) rfl (fun _ _ => .inl (by simp)) harr⟩
theorem LoopW.loop {F : Fence} {k : Nat} {b : Code} {Q : Exit → Act → World → Prop} {a : Act} (h : LoopW F k P b Q a w) : (Code.loop b).wpIn F k P Q a w := by
  intro fr q cs h1 h2 h3
  obtain ⟨e, a', w', hq, r⟩ := h fr q cs h1 h2 h3
  exact ⟨e, a', w', hq, .of_steps (.one (fenced_calm h2 h3 rfl) stepR_loop) r⟩
theorem unwindTo_KW {F : Fence} {k : Nat} {Q : Exit → Act → World → Prop} {id : Nat} {a : Act} : ∀ (K K' : List KI), unwindTo id K = some K' → KW F k P Q K' .normal a w → KW F k P Q K (.exit id) a w := by
  intro K
  induction K with
  | nil => intro K' h; cases h
  | cons i K ih =>
    intro K' h hk
    cases i with
    | code c => exact ih K' h hk
    | lp b => exact ih K' h hk
    | scp => exact ih K' h hk
    | blk id' =>
      have h' : (bif Nat.beq id id' then some K else unwindTo id K) = some K' := h
      show Exit.inBlock id' (KW F k P Q K) (.exit id) a w
      cases hb : Nat.beq id id' with
      | true =>
        rw [hb] at h'
        cases h'
        simp only [Exit.inBlock, Nat.eq_of_beq_eq_true hb, if_true]
        exact hk
      | false =>
        rw [hb] at h'
        have hne : ¬ id = id' := fun e => by rw [e, Nat.beq_refl] at hb; cases hb
        simp only [Exit.inBlock, hne, if_false]
        exact ih K' h' hk
theorem ret_KW {F : Fence} {k : Nat} {Q : Exit → Act → World → Prop} {a : Act} (h : Q .ret a w) : ∀ (K : List KI), KW F k P Q K .ret a w := by
  intro K
  induction K with
  | nil => exact h
  | cons i K ih => cases i <;> exact ih

/-- What holds of the rest, wherever what is known holds. -/
def Sat (P : Program) (N : Prot) (w0 : World) (n k : Nat) (S : Nat → Prop) (ρ0 : Emb) (Q : Exit → Act → World → Prop) (K : List KI) (T : Tr Value) (M : AMem) : Prop :=
  ∀ (ρ : Emb) (a : Act) (w : World), (∀ b l, S b → ρ0 b = some l → ρ b = some l) → Rel N w0 ρ M w → TJ ρ n T a.tmps → a.defers = [] → KW (fen none) k P Q K .normal a w
theorem aresl_soundJ {n : Nat} {T : Tr Value} {tmps : Array Value} (hr : Rel N w0 ρ M w) (ht : TJ ρ n T tmps) : ∀ (l : List ResultVar) (vs : List Value), knownRes T l = true → aresl P T M l = some vs →
    ∃ vs', VRs ρ vs vs' ∧ (l.mapM (readRes tmps)).run P w = .ok vs' w := by
  intro l
  induction l with
  | nil => intro vs _ h; cases h; exact ⟨[], .nil, rfl⟩
  | cons r l ih =>
    intro vs hk h
    have hk1 : knownRV T r = true ∧ knownRes T l = true := by
      unfold knownRes at hk
      rw [List.all_cons, Bool.and_eq_true] at hk
      exact hk
    have key : ∀ (v v' : Value) (vs1 : List Value), VR ρ v v' → vs = v :: vs1 → aresl P T M l = some vs1 → (readRes tmps r).run P w = .ok v' w →
        ∃ vs', VRs ρ vs vs' ∧ ((r :: l).mapM (readRes tmps)).run P w = .ok vs' w := by
      intro v v' vs1 hv hvs h1 h2
      obtain ⟨vs', h3, h4⟩ := ih vs1 hk1.2 h1
      refine ⟨v' :: vs', by rw [hvs]; exact .cons _ _ _ _ hv h3, ?_⟩
      rw [List.mapM_cons, Sem.run_bind, h2]
      simp only [Result.andThen_ok, Sem.run_bind, h4, Sem.run_pure]
    rw [aresl_cons] at h
    cases r with
    | tmp t =>
      simp only at h
      split at h
      rotate_left
      · cases h
      rename_i vs1 h1
      cases h
      exact key _ _ vs1 ((ht.2.2 t).known (by simpa [knownRV] using hk1.1)) rfl h1 rfl
    | cell a t =>
      simp only at h
      split at h
      rotate_left
      · cases h
      rename_i p hp
      split at h
      rotate_left
      · cases h
      rename_i v M1 hl
      split at h
      rotate_left
      · cases h
      rename_i vs1 hlim h1
      cases h
      have hlim : Nat.succ M1.nxt ≤ bigger := by simpa using hlim
      have hpr := (ht.2.2 a).known (by simpa [knownRV] using hk1.1)
      rw [hp] at hpr
      obtain ⟨l', hl', hs, he⟩ := hpr.ptr_inv
      have hsr := SR.loadVar (q := True) (P := P) (N := N) (w0 := w0) t (he ▸ hpr)
      obtain ⟨ρ', v', w', k1, k2, k3, k4, k5⟩ := hsr M w v M1 hr hl hlim
      obtain ⟨e1, e2, e3⟩ := k5 trivial
      rw [e3] at k3
      rw [e2] at k2
      refine key v v' vs1 k3 rfl h1 ?_
      unfold readRes
      simp only [he, asAddr, Sem.run_bind, Sem.run_pure, Result.andThen_ok, k2]
theorem kdone_sound {n : Nat} {T : Tr Value} {tmps : Array Value} {fn : Func} (hr : Rel N w0 ρ M w) (ht : TJ ρ n T tmps) {o : KOut} (h : kdone P fn T M = some o) :
    ∃ v v', o = .done v [] ∧ VR ρ v v' ∧ (results fn tmps).run P w = .ok v' w := by
  unfold kdone at h
  obtain ⟨hk, g⟩ := cond_some h
  clear h
  split at g
  rotate_left
  · cases g
  rename_i v hv
  cases g
  unfold aresults at hv
  split at hv
  rotate_left
  · cases hv
  rename_i vs hvs
  cases hv
  obtain ⟨vs', h1, h2⟩ := aresl_soundJ hr ht _ _ hk hvs
  have hm : (fn.results.mapM (readRes tmps)).run P w = .ok vs'.toArray w := by
    rw [Array.mapM_eq_mapM_toList, Sem.run_map, h2]
    rfl
  have hres : results fn tmps = (do let vs ← fn.results.mapM (readRes tmps); pure (if h : vs.size = 1 then vs[0] else .tuple vs)) := by
    unfold results
    have : (fun r : ResultVar => (match r with
      | .tmp t => pure (tmps.getD t undef)
      | .cell a t => do Go.loadVar t (← asAddr (tmps.getD a undef)) : Sem Value)) = readRes tmps := by
      funext r
      cases r <;> rfl
    rw [← this]
    rfl
  refine ⟨_, pack vs', rfl, ?_, ?_⟩
  · cases h1 with
    | nil => exact .tuple _ _ .nil
    | cons _ _ _ _ h hs => cases hs with
      | nil => exact h
      | cons _ _ _ _ h' hs' => exact .tuple _ _ (by simpa [pack] using VRs.cons _ _ _ _ h (.cons _ _ _ _ h' hs'))
  · rw [hres, Sem.run_bind, hm]
    simp only [Result.andThen_ok, Sem.run_pure]
    congr 1
    cases vs' with
    | nil => rfl
    | cons a l => cases l with
      | nil => rfl
      | cons b l => simp [pack]
theorem kadd_some {R : List Prop} {x : Option KOut} {o : KOut} (h : kadd R x = some o) : ∃ o1, x = some o1 ∧ ((∃ K kn km R', o1 = .stop K kn km R' ∧ o = .stop K kn km (R ++ R')) ∨ (∃ v R', o1 = .done v R' ∧ o = .done v (R ++ R'))) := by
  unfold kadd at h
  split at h
  · cases h; exact ⟨_, rfl, .inl ⟨_, _, _, _, rfl, rfl⟩⟩
  · cases h; exact ⟨_, rfl, .inr ⟨_, _, rfl, rfl⟩⟩
  · cases h
theorem acond_soundJ {n : Nat} {T : Tr Value} {a : Act} (ht : TJ ρ n T a.tmps) {c : Operand} {b : Bool} (h : acond T c = some b) : a.eval c = .bool b := by
  unfold acond at h
  split at h
  · rename_i hg
    split at h
    · rename_i b' hb
      cases h
      cases c with
      | tmp t =>
        have := (ht.2.2 t).known (by
          have hb : slot T t = .bool b := hb
          rw [hb]
          rfl)
        have hb : slot T t = .bool b := hb
        rw [hb] at this
        exact this.flat_eq rfl
      | func f => cases hb
      | const v => cases hg
      | global g => cases hg
    · cases h
  · split at h
    · cases h; rfl
    · cases h
/-- What a run says: where the state that it stops at is good, the state from which it began is. -/
def OutOk (P : Program) (N : Prot) (w0 : World) (n k : Nat) (S : Nat → Prop) (ρ0 : Emb) (Q : Exit → Act → World → Prop) (fn : Func) : KOut → Prop
  | .stop K kn km _ => ∀ (ρ : Emb) (a : Act) (w : World) (T : Tr Value) (M : AMem), (∀ b l, S b → ρ0 b = some l → ρ b = some l) → Rel N w0 ρ M w → TJ ρ n T a.tmps → a.defers = [] → (∀ p ∈ kn, slot T p.1 = p.2) → (∀ p ∈ km, M.get p.1 = some p.2) →
      KW (fen none) k P Q K .normal a w
  | .done v _ => ∀ (ρ : Emb) (a : Act) (w : World) (M : AMem) (e : Exit) (v' : Value), (e = .normal ∨ e = .ret) → (∀ b l, S b → ρ0 b = some l → ρ b = some l) → Rel N w0 ρ M w → a.defers = [] → VR ρ v v' → (results fn a.tmps).run P w = .ok v' w → Q e a w
theorem runK_sound (hz : PF P) (hm : P.follows .mixedOrders = true) {G : Globals} (hf : Fine G N w0) {n k : Nat} {S : Nat → Prop} {ρ0 : Emb} {Q : Exit → Act → World → Prop} {fn : Func} : ∀ (fuel : Nat) (K : List KI) (hs : List Hint) (ss : List SHint) (T : Tr Value) (M : AMem) (o : KOut),
    runK P G n fn fuel K hs ss T M = some o → All o.R → OutOk P N w0 n k S ρ0 Q fn o → Sat P N w0 n k S ρ0 Q K T M := by
  intro fuel
  induction fuel with
  | zero => intro K hs ss T M o h; cases h
  | succ fuel ih =>
    intro K hs ss T M o h hR hO
    have hdone : ∀ e, (e = .normal ∨ e = .ret) → kdone P fn T M = some o → ∀ (ρ : Emb) (a : Act) (w : World), (∀ b l, S b → ρ0 b = some l → ρ b = some l) → Rel N w0 ρ M w → TJ ρ n T a.tmps → a.defers = [] → Q e a w := by
      intro e he hd ρ a w hk hr ht hde
      obtain ⟨v, v', rfl, hv, hrun⟩ := kdone_sound hr ht hd
      exact hO ρ a w M e v' he hk hr hde hv hrun
    intro ρ a w hk hr ht hde
    cases K with
    | nil => exact hdone .normal (.inl rfl) h ρ a w hk hr ht hde
    | cons i K =>
      cases i with
      | blk id => exact ih K hs ss T M o h hR hO ρ a w hk hr ht hde
      | scp => exact ih K hs ss T M o h hR hO ρ a w hk hr ht hde
      | lp b =>
        have h' : klp (fun ss => runK P G n fn fuel (.code b :: .lp b :: K) hs ss T M) (.lp b :: K) ss T M = some o := h
        unfold klp at h'
        split at h'
        · have h1 := ih _ _ _ _ _ _ h' hR hO ρ a w hk hr ht hde
          exact LoopW.step (wpIn_mono h1 fun e a w h => by cases e <;> exact h)
        · obtain ⟨hkn, h2⟩ := cond_some h'
          split at h2
          rotate_left
          · cases h2
          rename_i km hkm
          cases h2
          exact hO ρ a w T M hk hr ht hde (fun p hp => by obtain ⟨t, _, rfl⟩ := List.mem_map.1 hp; rfl) (takeAll_at _ _ hkm)
        · cases h'
      | code c =>
        cases c with
        | skip => exact wpIn_skip (ih K hs ss T M o h hR hO ρ a w hk hr ht hde)
        | label l => exact wpIn_label (ih K hs ss T M o h hR hO ρ a w hk hr ht hde)
        | seq x y =>
          have h1 := ih (.code x :: .code y :: K) hs ss T M o h hR hO ρ a w hk hr ht hde
          exact wpIn_seq (wpIn_mono h1 fun e a w h => by cases e <;> exact h)
        | region id ops draw =>
          have h' : (match (bif draw then oregionD P G (hexec P G 60) n ops.toList hs T M else oregion P G (hexec P G 60) n ops.toList hs T M) with
            | some (T', M', hs', R) => kadd R (runK P G n fn fuel K hs' ss T' M')
            | none => none) = some o := h
          split at h'
          rotate_left
          · cases h'
          rename_i T' M' hs' R hreg
          obtain ⟨o1, h1, h2⟩ := kadd_some h'
          have hRR : All R ∧ All o1.R ∧ OutOk P N w0 n k S ρ0 Q fn o1 := by
            rcases h2 with ⟨K1, kn, km, R', rfl, rfl⟩ | ⟨v, R', rfl, rfl⟩
            · have := All.append.1 hR; exact ⟨this.1, this.2, hO⟩
            · have := All.append.1 hR; exact ⟨this.1, this.2, hO⟩
          have hnext : ∀ ρ' a' w', ρ.le ρ' → Rel N w0 ρ' M' w' → TJ ρ' n T' a'.tmps → a'.defers = a.defers → KW (fen none) k P Q K .normal a' w' := fun ρ' a' w' hle hr' ht' hd' =>
            ih K hs' ss T' M' o1 h1 hRR.2.1 hRR.2.2 ρ' a' w' (fun b l hb hl => hle _ _ (hk b l hb hl)) hr' ht' (hd'.trans hde)
          cases draw with
          | true => exact oregionD_sound hz (hexec_sound hz 60) hm hf hreg hRR.1 hr ht hnext
          | false => exact oregion_sound hz (hexec_sound hz 60) hf hreg hRR.1 hr ht hnext
        | cond x y z =>
          have h' : (match acond T x with
            | some true => runK P G n fn fuel (.code y :: K) hs ss T M
            | some false => runK P G n fn fuel (.code z :: K) hs ss T M
            | none => none) = some o := h
          split at h'
          · rename_i hc; exact wpIn_cond_true (acond_soundJ ht hc) (ih _ _ _ _ _ _ h' hR hO ρ a w hk hr ht hde)
          · rename_i hc; exact wpIn_cond_false (acond_soundJ ht hc) (ih _ _ _ _ _ _ h' hR hO ρ a w hk hr ht hde)
          · cases h'
        | block id b => exact wpIn_block (ih (.code b :: .blk id :: K) hs ss T M o h hR hO ρ a w hk hr ht hde)
        | loop b => exact LoopW.loop (ih (.lp b :: K) hs ss T M o h hR hO ρ a w hk hr ht hde)
        | scope b =>
          have h1 := ih (.code b :: .scp :: K) hs ss T M o h hR hO ρ a w hk hr ht hde
          exact wpIn_scope_straight h1
        | exit id =>
          have h' : (match unwindTo id K with
            | some K => runK P G n fn fuel K hs ss T M
            | none => none) = some o := h
          split at h'
          rotate_left
          · cases h'
          rename_i K' hu
          exact wpIn_exit (unwindTo_KW K K' hu (ih K' hs ss T M o h' hR hO ρ a w hk hr ht hde))
        | ret => exact wpIn_ret (ret_KW (hdone .ret (.inr rfl) h ρ a w hk hr ht hde) K)
        | goto l => cases h
        | refuse s => cases h
        | rangeFunc g ps x y => cases h
end
end Go.Sim
namespace Go.Sim
open Go.RowKit

section
variable {P : Program} {N : Prot} {w0 : World} {ρ : Emb} {M : AMem} {w : World}
/-! ### Functions -/
def QF (P : Program) (fn : Func) (k : Nat) (ρ0 : Emb) (w0 : World) (v : Value) : Exit → Act → World → Prop :=
  bodyPostM (fen none) k P fn fun e w' => ∃ v', e = .returned v' ∧ VR ρ0 v v' ∧ Same w0 w'
/-- From here on, with what is known, the function comes to the value. -/
def FSat (P : Program) (G : Globals) (fn : Func) (v : Value) (S : List Nat) (n : Nat) (K : List KI) (T : Tr Value) (M : AMem) : Prop :=
  ∀ (N : Prot) (w0 : World) (ρ0 : Emb) (k : Nat), (∀ j, N.F j ↔ j < w0.heap.size) → Fine G N w0 → (∀ b ∈ S, ∃ l, ρ0 b = some l) → Sat P N w0 n k (· ∈ S) ρ0 (QF P fn k ρ0 w0 v) K T M
/-- Facts on the program that all runs lean on. -/
theorem FSat.done (hP : PF P) {G : Globals} {n : Nat} {fn : Func} {fuel : Nat} {K : List KI} {hs : List Hint} {ss : List SHint} {T : Tr Value} {M : AMem} {v : Value} {R : List Prop} {S : List Nat}
    (h : runK P G n fn fuel K hs ss T M = some (.done v R)) (hR : All R) (hp : pinB 9 S v = true) : FSat P G fn v S n K T M := by
  intro N w0 ρ0 k hN hf hS
  refine runK_sound hP hP.mixed hf fuel K hs ss T M _ h hR ?_
  intro ρ a w M' e v' he hk hr hd hv hrun
  have hfin : LeavesInM (fen none) k P fn a.tmps (fun e w' => ∃ v', e = .returned v' ∧ VR ρ0 v v' ∧ Same w0 w') a.defers .returning w := by
    rw [hd]
    refine ⟨v', hrun, v', rfl, ?_, ?_⟩
    · refine pinB_pin 9 v hp ρ ρ0 v' ?_ hv
      intro b l hb hl
      obtain ⟨l0, h0⟩ := hS b hb
      have := hk b l0 hb h0
      rw [this] at hl
      cases hl
      exact h0
    · exact ⟨hr.below.os, hr.below.tape, hr.below.output, hr.below.size, fun j hj => hr.below.block j ((hN j).2 hj)⟩
  rcases he with rfl | rfl
  · exact hfin
  · exact hfin
theorem FSat.stop (hP : PF P) {G : Globals} {n : Nat} {fn : Func} {fuel : Nat} {K K' : List KI} {hs : List Hint} {ss : List SHint} {T : Tr Value} {M : AMem} {v : Value} {kn : List (Nat × Value)} {km : List (Nat × AObj)} {R : List Prop} {S : List Nat}
    (h : runK P G n fn fuel K hs ss T M = some (.stop K' kn km R)) (hR : All R) (nxt : Nat)
    (hc : (Nat.ble (Nat.succ nxt) bigger && (ltAll (ids km) nxt && (ltAll (kn.map (·.1)) n && (kn.all (fun p => pinB 9 (ids km) p.2) && S.all (fun b => (ids km).any (Nat.beq b)))))) = true)
    (hp : PinAll (· ∈ ids km) km) (next : FSat P G fn v S n K' (tOf n kn) (mOf nxt km)) : FSat P G fn v S n K T M := by
  intro N w0 ρ0 k hN hf hS
  simp only [Bool.and_eq_true] at hc
  obtain ⟨h1, h2, h3, h4, h5⟩ := hc
  have hn : Nat.succ nxt ≤ bigger := by simpa using h1
  have hn : nxt < bigger := hn
  refine runK_sound hP hP.mixed hf fuel K hs ss T M _ h hR ?_
  intro ρ a w T' M' hk hr ht hd hkn hkm
  have hlt : ∀ p ∈ km, p.1 < nxt := fun p hp => ltAll_at h2 p.1 (List.mem_map.2 ⟨p, hp, rfl⟩)
  have hin : ∀ b l, b ∈ ids km → ρ b = some l → (fun b => match (mOf nxt km).get b with | some _ => ρ b | none => none : Emb) b = some l := by
    intro b l hb hl
    obtain ⟨p, h1, rfl⟩ := List.mem_map.1 hb
    obtain ⟨o, ho⟩ := mOf_mem hn km hlt p h1
    simp only [ho]
    exact hl
  refine next N w0 ρ0 k hN hf hS _ a w ?_ (Rel.restrict hr hn h2 hkm hp) ?_ hd
  · intro b l hb hl
    exact hin b l (anyB (List.all_eq_true.1 h5 b hb)) (hk b l hb hl)
  · refine ⟨ht.1, ht.2.1, fun t => ?_⟩
    have hkl : ∀ p ∈ kn, p.1 < n := fun p hp => ltAll_at h3 p.1 (List.mem_map.2 ⟨p, hp, rfl⟩)
    rcases slot_tOf ht.2.1 kn hkl t with ⟨p, k1, k2, k3⟩ | ⟨k1, k2⟩ | ⟨k1, k2⟩
    · rw [k3]
      have hs := ht.2.2 t
      rw [← k2, hkn p k1] at hs
      rw [← k2]
      rcases hs with hj | hv
      · exact .inl hj
      · exact .inr (pinB_pin 9 p.2 (List.all_eq_true.1 h4 p k1) ρ _ _ hin hv)
    · rw [k2]; exact .inl rfl
    · rw [k2]
      refine .inr ?_
      have : a.tmps.getD t undef = undef := by
        rw [Array.getD_eq_getD_getElem?, Array.getElem?_eq_none (by rw [ht.1]; exact k1)]
        rfl
      rw [this]
      exact undefR
end
/-! short forms: what is asked is read off from its proofs -/
theorem pc {p : Prop} {R : List Prop} (h : p) (t : All R) : All (p :: R) := ⟨h, t⟩
theorem pt (p : Prop) {R : List Prop} (h : p) (t : All R) : All (p :: R) := ⟨h, t⟩
theorem pn : All [] := trivial
theorem bb (b : Bool) : b = true ∨ b = false := Bool.eq_false_or_eq_true b
theorem sI {α : Type} {a b : α} (h : some a = some b) : a = b := Option.some.inj h
theorem cT {α : Type} {a b : α} : cond true a b = a := rfl
theorem cF {α : Type} {a b : α} : cond false a b = b := rfl
theorem oS {α β : Type} {a : α} {f : α → Option β} : (some a).bind f = f a := rfl
theorem oN {α β : Type} {f : α → Option β} : (none : Option α).bind f = none := rfl
theorem FSat.d {P : Program} (hP : PF P) {G : Globals} {n : Nat} {fn : Func} (fuel : Nat) {K : List KI} (hs : List Hint) (ss : List SHint) {T : Tr Value} {M : AMem} {v : Value} {R : List Prop} {S : List Nat}
    (hR : All R) (h : runK P G n fn fuel K hs ss T M = some (.done v R)) (hp : pinB 9 S v = true) : FSat P G fn v S n K T M :=
  FSat.done hP h hR hp
theorem FSat.s {P : Program} (hP : PF P) {G : Globals} {n : Nat} {fn : Func} (fuel : Nat) {K K' : List KI} (hs : List Hint) (ss : List SHint) {T : Tr Value} {M : AMem} {v : Value} {kn : List (Nat × Value)} {km : List (Nat × AObj)} {R : List Prop} {S : List Nat}
    (hR : All R) (h : runK P G n fn fuel K hs ss T M = some (.stop K' kn km R)) (nxt : Nat)
    (hc : (Nat.ble (Nat.succ nxt) bigger && (ltAll (ids km) nxt && (ltAll (kn.map (·.1)) n && (kn.all (fun p => pinB 9 (ids km) p.2) && S.all (fun b => (ids km).any (Nat.beq b)))))) = true)
    (hp : PinAll (· ∈ ids km) km) (next : FSat P G fn v S n K' (tOf n kn) (mOf nxt km)) : FSat P G fn v S n K T M :=
  FSat.stop hP h hR nxt hc hp next

end Go.Sim
namespace Go.Sim
open Go.RowKit
def globs (G : Globals) : List (Nat × AObj) := G.map fun p => (p.1, .rom p.2 .glob)
def looses (km : List (Nat × List Value)) : List (Nat × AObj) := km.map fun p => (p.1, .rom p.2 .loose)
def argsK (args : List Value) (i : Nat) : List (Nat × Value) :=
  match args with
  | [] => []
  | v :: l => (i, v) :: argsK l (i + 1)
def nodupB : List Nat → Bool
  | [] => true
  | x :: l => !(l.any (Nat.beq x)) && nodupB l
def PinK (S : Nat → Prop) : List (Nat × List Value) → Prop
  | [] => True
  | p :: l => PinL S p.2 ∧ PinK S l
theorem PinK.at {S : Nat → Prop} : ∀ (l : List (Nat × List Value)), PinK S l → ∀ p ∈ l, PinL S p.2 := by
  intro l
  induction l with
  | nil => intro _ p hp; cases hp
  | cons q l ih =>
    intro h p hp
    rcases List.mem_cons.1 hp with rfl | hp
    · exact h.1
    · exact ih h.2 p hp
theorem argsK_at : ∀ (args : List Value) (i : Nat) (p : Nat × Value), p ∈ argsK args i → i ≤ p.1 ∧ args[p.1 - i]? = some p.2 := by
  intro args
  induction args with
  | nil => intro i p h; cases h
  | cons v l ih =>
    intro i p h
    rcases List.mem_cons.1 h with rfl | h
    · exact ⟨Nat.le_refl _, by simp⟩
    · obtain ⟨h1, h2⟩ := ih (i + 1) p h
      refine ⟨by omega, ?_⟩
      rw [show p.1 - i = (p.1 - (i + 1)) + 1 by omega]
      simpa using h2
theorem nodupB_inj {l : List Nat} : nodupB l = true → l.Nodup := by
  induction l with
  | nil => intro _; exact List.nodup_nil
  | cons x l ih =>
    intro h
    simp only [nodupB, Bool.and_eq_true, Bool.not_eq_true'] at h
    refine List.nodup_cons.2 ⟨fun hx => ?_, ih h.2⟩
    have : l.any (Nat.beq x) = true := List.any_eq_true.2 ⟨x, hx, Nat.beq_refl x⟩
    rw [this] at h
    cases h.1
def bodyOf (fn : Func) : Code := fn.body.getD .skip
/-- A function's contract, from a run of its body. -/
theorem FC.of_fsat {P : Program} {G : Globals} {f : FuncId} {fn : Func} {args : List Value} {km : List (Nat × List Value)} {v : Value} (n nxt : Nat)
    (hfn : P.funcs[f]? = some fn) (hbs : fn.body.isSome = true) (hn : n = args.length + (fn.ntmps - args.length))
    (hc : (Nat.ble (Nat.succ n) bigger && (Nat.ble (Nat.succ nxt) bigger && (ltAll (ids (globs G ++ looses km)) nxt && (nodupB (ids (globs G ++ looses km)) && args.all (pinB 9 (ids (looses km))))))) = true)
    (hp : PinK (· ∈ ids (looses km)) km)
    (h : FSat P G fn v (ids (looses km)) n [.code (bodyOf fn)] (tOf n (argsK args 0)) (mOf nxt (globs G ++ looses km))) : FC P G f args km v := by
  intro ρ0 w args' k hg hm ha
  have hb : fn.body = some (bodyOf fn) := by
    unfold bodyOf
    cases h1 : fn.body with
    | none => rw [h1] at hbs; cases hbs
    | some c => rfl
  simp only [Bool.and_eq_true] at hc
  obtain ⟨c1, c2, c3, c4, c5⟩ := hc
  have hnb : n < bigger := by have : Nat.succ n ≤ bigger := by simpa using c1
                              exact this
  have hxb : nxt < bigger := by have : Nat.succ nxt ≤ bigger := by simpa using c2
                                exact this
  have hnd := nodupB_inj c4
  have hlt : ∀ p ∈ globs G ++ looses km, p.1 < nxt := fun p hp => ltAll_at c3 p.1 (List.mem_map.2 ⟨p, hp, rfl⟩)
  have hlen := ha.length
  have hgf : ∀ j, (∃ p ∈ G, p.1 = j) → j < w.heap.size := fun j ⟨p, hp, e⟩ => by
    obtain ⟨_, c', e', fz, h1, _⟩ := hg p hp
    exact e ▸ (Array.getElem?_eq_some_iff.1 h1).1
  let N : Prot := ⟨fun j => j < w.heap.size, fun j => ∃ p ∈ G, p.1 = j, hgf, fun j => j < w.heap.size, fun _ h => h⟩
  have hN : ∀ j, N.F j ↔ j < w.heap.size := fun j => Iff.rfl
  have hfine : Fine G N w := ⟨hg, fun p hp => by
    obtain ⟨_, c', e', fz, h1, _⟩ := hg p hp
    exact (Array.getElem?_eq_some_iff.1 h1).1⟩
  have hS : ∀ b ∈ ids (looses km), ∃ l, ρ0 b = some l := by
    intro b hb
    obtain ⟨p, h1, rfl⟩ := List.mem_map.1 hb
    obtain ⟨q, h2, rfl⟩ := List.mem_map.1 h1
    obtain ⟨l, h3, _⟩ := hm q h2
    exact ⟨l, h3⟩
  -- the blocks' places
  let ρ : Emb := fun b => if b ∈ ids (looses km) then ρ0 b else if b ∈ G.map (·.1) then some ⟨b, 0, 0, 0⟩ else none
  have hρk : ∀ b l, b ∈ ids (looses km) → ρ0 b = some l → ρ b = some l := fun b l hb hl => by simp only [ρ, if_pos hb]; exact hl
  have hρi : ∀ b l, ρ b = some l → (b ∈ ids (looses km) ∧ ρ0 b = some l) ∨ (b ∉ ids (looses km) ∧ b ∈ G.map (·.1) ∧ l = ⟨b, 0, 0, 0⟩) := by
    intro b l hb
    simp only [ρ] at hb
    split at hb
    · rename_i h1; exact .inl ⟨h1, hb⟩
    · rename_i h1
      split at hb
      · rename_i h2; cases hb; exact .inr ⟨h1, h2, rfl⟩
      · cases hb
  have hget : ∀ b o, (mOf nxt (globs G ++ looses km)).get b = some o → (∃ p ∈ G, p.1 = b ∧ o = .rom p.2 .glob ∧ b ∉ ids (looses km)) ∨ (∃ p ∈ km, p.1 = b ∧ o = .rom p.2 .loose) := by
    intro b o hb
    rcases List.mem_append.1 (mOf_get hxb _ hlt b o hb) with h1 | h1
    · obtain ⟨p, h2, h3⟩ := List.mem_map.1 h1
      cases h3
      refine .inl ⟨p, h2, rfl, rfl, fun hin => ?_⟩
      have hnd' : (ids (globs G) ++ ids (looses km)).Nodup := by unfold ids at hnd ⊢; rw [← List.map_append]; exact hnd
      have := (List.nodup_append.1 hnd').2.2 p.1 (List.mem_map.2 ⟨(p.1, .rom p.2 .glob), h1, rfl⟩) p.1 hin
      exact this rfl
    · obtain ⟨p, h2, h3⟩ := List.mem_map.1 h1
      cases h3
      exact .inr ⟨p, h2, rfl, rfl⟩
  have hmemk : ∀ p ∈ km, p.1 ∈ ids (looses km) := fun p hp => List.mem_map.2 ⟨(p.1, .rom p.2 .loose), List.mem_map.2 ⟨p, hp, rfl⟩, rfl⟩
  have hcell : ∀ c sh c', PinL (· ∈ ids (looses km)) c → CellsR ρ0 c sh c' → CellsR ρ c sh c' := by
    intro c sh c' hpc h1 j v hj
    obtain ⟨u, h2, h3⟩ := h1 j v hj
    exact ⟨u, h2, hpc v (List.mem_of_getElem? hj) ρ0 ρ u hρk h3⟩
  have hglobOR : ∀ p ∈ G, OR ρ (.rom p.2 .glob) ⟨p.1, 0, 0, 0⟩ w := by
    intro p hp
    obtain ⟨hf, c', e, fz, h1, h2⟩ := hg p hp
    exact .inr ⟨c', e, fz, h1, fun j v hj => ⟨v, by rw [Nat.zero_add]; exact h2 j v hj, .flat _ (List.all_eq_true.1 hf v (List.mem_of_getElem? hj))⟩, fun _ => rfl⟩
  have hobj : ∀ b o, (mOf nxt (globs G ++ looses km)).get b = some o → ∃ l, ρ b = some l ∧ OR ρ o l w ∧ l.blk < w.heap.size ∧ o.rom? = true := by
    intro b o hb
    rcases hget b o hb with ⟨p, h1, rfl, rfl, hni⟩ | ⟨p, h1, rfl, rfl⟩
    · have hin : p.1 ∈ G.map (·.1) := List.mem_map.2 ⟨p, h1, rfl⟩
      refine ⟨⟨p.1, 0, 0, 0⟩, by simp only [ρ, if_neg hni, if_pos hin], hglobOR p h1, ?_, rfl⟩
      obtain ⟨_, c', e, fz, h2, _⟩ := hg p h1
      exact (Array.getElem?_eq_some_iff.1 h2).1
    · obtain ⟨l, h2, hlt2, hor⟩ := hm p h1
      refine ⟨l, hρk _ _ (hmemk p h1) h2, ?_, hlt2, rfl⟩
      rcases hor with hor | ⟨c', e, fz, h3, h4, h5⟩
      · exact .inl hor
      · exact .inr ⟨c', e, fz, h3, hcell _ _ _ (hp.at km p h1) h4, h5⟩
  have hrel : Rel N w ρ (mOf nxt (globs G ++ looses km)) w := by
    refine ⟨⟨rfl, rfl, rfl, Nat.le_refl _, fun _ _ => rfl⟩, fun _ h => h, ?_, ?_, ?_, ?_, hxb, ?_, ?_, ?_, ?_⟩
    · intro b l hb
      have hmem : ∃ p ∈ globs G ++ looses km, p.1 = b := by
        rcases hρi b l hb with ⟨h1, _⟩ | ⟨_, h1, _⟩
        · obtain ⟨p, h2, h3⟩ := List.mem_map.1 h1; exact ⟨p, List.mem_append_right _ h2, h3⟩
        · obtain ⟨p, h2, h3⟩ := List.mem_map.1 h1; exact ⟨(p.1, .rom p.2 .glob), List.mem_append_left _ (List.mem_map.2 ⟨p, h2, rfl⟩), h3⟩
      obtain ⟨p, h1, rfl⟩ := hmem
      obtain ⟨o, ho⟩ := mOf_mem hxb _ hlt p h1
      obtain ⟨l2, h2, _, h3, _⟩ := hobj _ _ ho
      rw [hb] at h2
      cases h2
      exact ⟨h3, o, ho⟩
    · intro b o hb _
      obtain ⟨l, h1, h2, _, h4⟩ := hobj b o hb
      exact ⟨l, h1, h2, fun h => by rw [h4] at h; cases h⟩
    · intro b b' o o' l l' h1 _ _ _ m1
      obtain ⟨_, _, _, _, h4⟩ := hobj b o h1
      rw [h4] at m1
      cases m1
    · intro b o hb
      exact hlt _ (mOf_get hxb _ hlt b o hb)
    · intro b c hb
      rcases hget b _ hb with ⟨p, h1, rfl, _, hni⟩ | ⟨p, h1, rfl, h2⟩
      · simp only [ρ, if_neg hni, if_pos (List.mem_map.2 ⟨p, h1, rfl⟩ : p.1 ∈ G.map (·.1))]
      · cases h2
    · intro b c hb
      rcases hget b _ hb with ⟨p, h1, rfl, _, hni⟩ | ⟨p, h1, rfl, h2⟩
      · exact ⟨p, h1, rfl⟩
      · cases h2
    · intro b o l hb _ hl
      obtain ⟨l2, h1, _, h3, _⟩ := hobj b o hb
      rw [hl] at h1
      cases h1
      exact h3
    · intro b o l hb hn2 hl _
      rcases hget b o hb with ⟨p, h1, rfl, rfl, hni⟩ | ⟨p, h1, rfl, rfl⟩
      · simp only [ρ, if_neg hni, if_pos (List.mem_map.2 ⟨p, h1, rfl⟩ : p.1 ∈ G.map (·.1))] at hl
        cases hl
        rfl
      · cases hn2
  refine callsIn_of_wp_marks hfn hb trivial ?_
  refine h N w ρ0 k hN hfine hS ρ _ w ?_ hrel ?_ rfl
  · intro b l hb hl
    exact hρk b l hb hl
  · have hsz : args.length = args'.size := by simpa using hlen
    refine ⟨by simp; omega, hnb, fun t => ?_⟩
    have hargs : ∀ (i : Nat) v, args[i]? = some v → ∃ v', args'[i]? = some v' ∧ VR ρ v v' := by
      intro i v hv
      obtain ⟨v', h1, h2⟩ := ha.get i v hv
      refine ⟨v', by simpa using h1, pinB_pin 9 v (List.all_eq_true.1 c5 v (List.mem_of_getElem? hv)) ρ0 ρ v' hρk h2⟩
    have hkn : ∀ p ∈ argsK args 0, p.1 < n := by
      intro p hp
      have h1 := (argsK_at args 0 p hp).2
      have := (List.getElem?_eq_some_iff.1 h1).1
      omega
    rcases slot_tOf hnb (argsK args 0) hkn t with ⟨p, k1, k2, k3⟩ | ⟨k1, k2⟩ | ⟨k1, k2⟩
    · rw [k3]
      have h1 := (argsK_at args 0 p k1).2
      rw [Nat.sub_zero, k2] at h1
      obtain ⟨v', h2, h3⟩ := hargs t p.2 h1
      refine .inr ?_
      have : (args' ++ Array.replicate (fn.ntmps - args'.size) undef).getD t undef = v' := by
        rw [Array.getD_eq_getD_getElem?, Array.getElem?_append_left (Array.getElem?_eq_some_iff.1 h2).1, h2]
        rfl
      rw [this]
      exact h3
    · rw [k2]; exact .inl rfl
    · rw [k2]
      refine .inr ?_
      have : (args' ++ Array.replicate (fn.ntmps - args'.size) undef).getD t undef = undef := by
        rw [Array.getD_eq_getD_getElem?, Array.getElem?_eq_none (by simp; omega)]
        rfl
      rw [this]
      exact undefR
end Go.Sim
namespace Go.Sim
def zeroB (i : TypeInfo) : Bool :=
  match i.zero with
  | some v => v.cells.toList.all (selfB 9)
  | none => true
theorem zerosFine.of {P : Program} (h : ∀ t i, P.info? t = some i → zeroB i = true) : zerosFine P := by
  intro t i v h1 h2 x hx
  have := h t i h1
  unfold zeroB at this
  rw [h2] at this
  exact selfB_self 9 x (List.all_eq_true.1 this x hx)
end Go.Sim
namespace Go.Sim
/-! ### The zero values of types that are made -/
def ZF (i : TypeInfo) : Prop := ∀ v, i.zero = some v → ∀ x ∈ v.cells.toList, Self x
theorem forIn_opt {α β : Type} (f : α → β → Option (ForInStep β)) (I : β → Prop) (hf : ∀ x b s, I b → f x b = some s → I (match s with | .yield b => b | .done b => b)) :
    ∀ (l : List α) (b r : β), I b → forIn l b f = some r → I r := by
  intro l
  induction l with
  | nil => intro b r hb h; simp at h; exact h ▸ hb
  | cons x l ih =>
    intro b r hb h
    simp only [List.forIn_cons, Option.bind_eq_bind, Option.bind_eq_some_iff] at h
    obtain ⟨s, h1, h2⟩ := h
    have h3 := hf x b s hb h1
    cases s with
    | done b' => cases h2; exact h3
    | yield b' => exact ih b' r h3 h2
theorem flatZ {i : TypeInfo} {v : Value} (h : i.zero = some v) (hf : isFlat v = true) (hc : v.cells = #[v]) : ZF i := by
  intro u hu x hx
  rw [h] at hu
  cases hu
  rw [hc] at hx
  simp at hx
  subst hx
  exact fun ρ => .flat _ hf
theorem reckonStruct_zero {info : TypeId → Option TypeInfo} (hi : ∀ t i, info t = some i → ZF i) {fs : Array Field} {i : TypeInfo} (h : Made.reckonStruct info fs = some i) : ZF i := by
  unfold Made.reckonStruct at h
  simp only [bind, Option.bind_eq_some_iff, pure] at h
  obtain ⟨a, ha, h⟩ := h
  have key : ∀ z : Array Value, a.snd.snd.snd.snd.snd.snd.snd.fst = some z → ∀ x ∈ z.toList, Self x := by
    rw [← Array.forIn_toList] at ha
    refine forIn_opt _ (fun b => ∀ z : Array Value, b.snd.snd.snd.snd.snd.snd.snd.fst = some z → ∀ x ∈ z.toList, Self x) ?_ _ _ _ ?_ ha
    · intro f b s hb h
      obtain ⟨j, hj, h⟩ := Option.bind_eq_some_iff.1 h
      have step : ∀ (c : Prop) [Decidable c] (z : Array Value), (if c then none else b.snd.snd.snd.snd.snd.snd.snd.fst.bind fun z0 => j.zero.bind fun v => some (z0 ++ v.cells)) = some z → ∀ x ∈ z.toList, Self x := by
        intro c _ z hz x hx
        split at hz
        · cases hz
        · obtain ⟨z0, h0, hz⟩ := Option.bind_eq_some_iff.1 hz
          obtain ⟨v, hv, hz⟩ := Option.bind_eq_some_iff.1 hz
          cases hz
          simp only [Array.toList_append, List.mem_append] at hx
          rcases hx with hx | hx
          · exact hb z0 h0 x hx
          · exact hi _ _ hj v hv x hx
      split at h
      · cases h
      split at h
      · cases h
      split at h
      · simp only [Option.bind_some] at h
        split at h <;> (cases h; exact step _)
      · obtain ⟨tag, _, h⟩ := Option.bind_eq_some_iff.1 h
        split at h <;> (cases h; exact step _)
    · intro z hz x hx
      cases hz
      simp at hx
  have fin : ∀ (z : Option (Array Value)) (v : Value), (∀ u, z = some u → ∀ x ∈ u.toList, Self x) → z.map Value.agg = some v → ∀ x ∈ v.cells.toList, Self x := by
    intro z v hz hv x hx
    cases z with
    | none => cases hv
    | some u => cases hv; exact hz u rfl x hx
  split at h <;> (cases h; intro v hv; exact fin _ v key hv)
theorem reckon_zero {info : TypeId → Option TypeInfo} (hi : ∀ t i, info t = some i → ZF i) {d : TypeDesc} {i : TypeInfo} (h : Made.reckon info d = some i) : ZF i := by
  unfold Made.reckon at h
  split at h
  case h_7 => exact reckonStruct_zero hi h
  all_goals try simp only [bind, Option.bind_eq_some_iff, pure] at h
  case h_6 n e =>
    obtain ⟨j, hj, s, _, h⟩ := h
    cases h
    intro v hv
    simp only at hv
    split at hv
    · cases hv
    · split at hv
      · cases hv; intro x hx; simp [Value.cells] at hx
      · cases hz : j.zero with
        | none => rw [hz] at hv; cases hv
        | some z =>
          rw [hz] at hv
          cases hv
          intro x hx
          simp only [Value.cells, Array.mem_toList_iff, Array.mem_flatten, Array.mem_replicate] at hx
          obtain ⟨c, ⟨_, rfl⟩, hx⟩ := hx
          exact hi _ _ hj z hz x (Array.mem_toList_iff.2 hx)
  all_goals repeat' first
    | (obtain ⟨_, _, h⟩ := h)
    | (split at h)
  all_goals first
    | exact flatZ rfl rfl rfl
    | (cases h; exact flatZ rfl rfl rfl)
    | (simp only [Option.bind_eq_some_iff] at h; obtain ⟨_, _, h⟩ := h; cases h; exact flatZ rfl rfl rfl)
    | cases h
theorem info_zero {P : Program} (h : P.types.toList.all zeroB = true) : zerosFine P := by
  have h0 : ∀ (t : Nat) i, P.types[t]? = some i → ZF i := by
    intro t i ht v hv x hx
    have := List.all_eq_true.1 h i (by rw [Array.mem_toList_iff]; exact Array.mem_of_getElem? ht)
    unfold zeroB at this
    rw [hv] at this
    exact selfB_self 9 x (List.all_eq_true.1 this x hx)
  have h1 : ∀ f t i, Made.infoAt P.toTables f t = some i → ZF i := by
    intro f
    induction f with
    | zero => intro t i h; cases h
    | succ f ih =>
      intro t i h
      unfold Made.infoAt at h
      split at h
      · exact h0 t i h
      · obtain ⟨d, _, h⟩ := Option.bind_eq_some_iff.1 h
        exact reckon_zero ih h
  intro t i v hi hv
  have : ZF i := by
    unfold Tables.info? at hi
    split at hi
    · exact h0 t i hi
    · exact h1 _ t i hi
  exact this v hv
end Go.Sim
namespace Go.Sim
open Go.RowKit
/-- The memory of a call, as it is when the call begins. -/
theorem exec_setup {G : Globals} {args : List Value} {km : List (Nat × List Value)} (nxt : Nat) (hc : (Nat.ble (Nat.succ nxt) bigger && (ltAll (ids (globs G ++ looses km)) nxt && (nodupB (ids (globs G ++ looses km)) && args.all (pinB 9 (ids (looses km)))))) = true) (hp : PinK (· ∈ ids (looses km)) km)
    {ρ0 : Emb} {w : World} {args' : Array Value} (hg : GV G w) (hm : MemR ρ0 km w) (ha : VRs ρ0 args args'.toList) :
    ∃ (N : Prot) (ρ : Emb), (∀ j, N.F j ↔ j < w.heap.size) ∧ Fine G N w ∧ (∀ b l, b ∈ ids (looses km) → ρ0 b = some l → ρ b = some l) ∧ (∀ b l, b ∈ ids (looses km) → ρ b = some l → ρ0 b = some l) ∧ Rel N w ρ (mOf nxt (globs G ++ looses km)) w ∧ VRs ρ args args'.toList := by
  simp only [Bool.and_eq_true] at hc
  obtain ⟨c2, c3, c4, c5⟩ := hc
  have hxb : nxt < bigger := by have : Nat.succ nxt ≤ bigger := by simpa using c2
                                exact this
  have hnd := nodupB_inj c4
  have hlt : ∀ p ∈ globs G ++ looses km, p.1 < nxt := fun p hp => ltAll_at c3 p.1 (List.mem_map.2 ⟨p, hp, rfl⟩)
  have hlen := ha.length
  have hgf : ∀ j, (∃ p ∈ G, p.1 = j) → j < w.heap.size := fun j ⟨p, hp, e⟩ => by
    obtain ⟨_, c', e', fz, h1, _⟩ := hg p hp
    exact e ▸ (Array.getElem?_eq_some_iff.1 h1).1
  let N : Prot := ⟨fun j => j < w.heap.size, fun j => ∃ p ∈ G, p.1 = j, hgf, fun j => j < w.heap.size, fun _ h => h⟩
  have hN : ∀ j, N.F j ↔ j < w.heap.size := fun j => Iff.rfl
  have hfine : Fine G N w := ⟨hg, fun p hp => by
    obtain ⟨_, c', e', fz, h1, _⟩ := hg p hp
    exact (Array.getElem?_eq_some_iff.1 h1).1⟩
  have hS : ∀ b ∈ ids (looses km), ∃ l, ρ0 b = some l := by
    intro b hb
    obtain ⟨p, h1, rfl⟩ := List.mem_map.1 hb
    obtain ⟨q, h2, rfl⟩ := List.mem_map.1 h1
    obtain ⟨l, h3, _⟩ := hm q h2
    exact ⟨l, h3⟩
  -- the blocks' places
  let ρ : Emb := fun b => if b ∈ ids (looses km) then ρ0 b else if b ∈ G.map (·.1) then some ⟨b, 0, 0, 0⟩ else none
  have hρk : ∀ b l, b ∈ ids (looses km) → ρ0 b = some l → ρ b = some l := fun b l hb hl => by simp only [ρ, if_pos hb]; exact hl
  have hρi : ∀ b l, ρ b = some l → (b ∈ ids (looses km) ∧ ρ0 b = some l) ∨ (b ∉ ids (looses km) ∧ b ∈ G.map (·.1) ∧ l = ⟨b, 0, 0, 0⟩) := by
    intro b l hb
    simp only [ρ] at hb
    split at hb
    · rename_i h1; exact .inl ⟨h1, hb⟩
    · rename_i h1
      split at hb
      · rename_i h2; cases hb; exact .inr ⟨h1, h2, rfl⟩
      · cases hb
  have hget : ∀ b o, (mOf nxt (globs G ++ looses km)).get b = some o → (∃ p ∈ G, p.1 = b ∧ o = .rom p.2 .glob ∧ b ∉ ids (looses km)) ∨ (∃ p ∈ km, p.1 = b ∧ o = .rom p.2 .loose) := by
    intro b o hb
    rcases List.mem_append.1 (mOf_get hxb _ hlt b o hb) with h1 | h1
    · obtain ⟨p, h2, h3⟩ := List.mem_map.1 h1
      cases h3
      refine .inl ⟨p, h2, rfl, rfl, fun hin => ?_⟩
      have hnd' : (ids (globs G) ++ ids (looses km)).Nodup := by unfold ids at hnd ⊢; rw [← List.map_append]; exact hnd
      have := (List.nodup_append.1 hnd').2.2 p.1 (List.mem_map.2 ⟨(p.1, .rom p.2 .glob), h1, rfl⟩) p.1 hin
      exact this rfl
    · obtain ⟨p, h2, h3⟩ := List.mem_map.1 h1
      cases h3
      exact .inr ⟨p, h2, rfl, rfl⟩
  have hmemk : ∀ p ∈ km, p.1 ∈ ids (looses km) := fun p hp => List.mem_map.2 ⟨(p.1, .rom p.2 .loose), List.mem_map.2 ⟨p, hp, rfl⟩, rfl⟩
  have hcell : ∀ c sh c', PinL (· ∈ ids (looses km)) c → CellsR ρ0 c sh c' → CellsR ρ c sh c' := by
    intro c sh c' hpc h1 j v hj
    obtain ⟨u, h2, h3⟩ := h1 j v hj
    exact ⟨u, h2, hpc v (List.mem_of_getElem? hj) ρ0 ρ u hρk h3⟩
  have hglobOR : ∀ p ∈ G, OR ρ (.rom p.2 .glob) ⟨p.1, 0, 0, 0⟩ w := by
    intro p hp
    obtain ⟨hf, c', e, fz, h1, h2⟩ := hg p hp
    exact .inr ⟨c', e, fz, h1, fun j v hj => ⟨v, by rw [Nat.zero_add]; exact h2 j v hj, .flat _ (List.all_eq_true.1 hf v (List.mem_of_getElem? hj))⟩, fun _ => rfl⟩
  have hobj : ∀ b o, (mOf nxt (globs G ++ looses km)).get b = some o → ∃ l, ρ b = some l ∧ OR ρ o l w ∧ l.blk < w.heap.size ∧ o.rom? = true := by
    intro b o hb
    rcases hget b o hb with ⟨p, h1, rfl, rfl, hni⟩ | ⟨p, h1, rfl, rfl⟩
    · have hin : p.1 ∈ G.map (·.1) := List.mem_map.2 ⟨p, h1, rfl⟩
      refine ⟨⟨p.1, 0, 0, 0⟩, by simp only [ρ, if_neg hni, if_pos hin], hglobOR p h1, ?_, rfl⟩
      obtain ⟨_, c', e, fz, h2, _⟩ := hg p h1
      exact (Array.getElem?_eq_some_iff.1 h2).1
    · obtain ⟨l, h2, hlt2, hor⟩ := hm p h1
      refine ⟨l, hρk _ _ (hmemk p h1) h2, ?_, hlt2, rfl⟩
      rcases hor with hor | ⟨c', e, fz, h3, h4, h5⟩
      · exact .inl hor
      · exact .inr ⟨c', e, fz, h3, hcell _ _ _ (hp.at km p h1) h4, h5⟩
  have hrel : Rel N w ρ (mOf nxt (globs G ++ looses km)) w := by
    refine ⟨⟨rfl, rfl, rfl, Nat.le_refl _, fun _ _ => rfl⟩, fun _ h => h, ?_, ?_, ?_, ?_, hxb, ?_, ?_, ?_, ?_⟩
    · intro b l hb
      have hmem : ∃ p ∈ globs G ++ looses km, p.1 = b := by
        rcases hρi b l hb with ⟨h1, _⟩ | ⟨_, h1, _⟩
        · obtain ⟨p, h2, h3⟩ := List.mem_map.1 h1; exact ⟨p, List.mem_append_right _ h2, h3⟩
        · obtain ⟨p, h2, h3⟩ := List.mem_map.1 h1; exact ⟨(p.1, .rom p.2 .glob), List.mem_append_left _ (List.mem_map.2 ⟨p, h2, rfl⟩), h3⟩
      obtain ⟨p, h1, rfl⟩ := hmem
      obtain ⟨o, ho⟩ := mOf_mem hxb _ hlt p h1
      obtain ⟨l2, h2, _, h3, _⟩ := hobj _ _ ho
      rw [hb] at h2
      cases h2
      exact ⟨h3, o, ho⟩
    · intro b o hb _
      obtain ⟨l, h1, h2, _, h4⟩ := hobj b o hb
      exact ⟨l, h1, h2, fun h => by rw [h4] at h; cases h⟩
    · intro b b' o o' l l' h1 _ _ _ m1
      obtain ⟨_, _, _, _, h4⟩ := hobj b o h1
      rw [h4] at m1
      cases m1
    · intro b o hb
      exact hlt _ (mOf_get hxb _ hlt b o hb)
    · intro b c hb
      rcases hget b _ hb with ⟨p, h1, rfl, _, hni⟩ | ⟨p, h1, rfl, h2⟩
      · simp only [ρ, if_neg hni, if_pos (List.mem_map.2 ⟨p, h1, rfl⟩ : p.1 ∈ G.map (·.1))]
      · cases h2
    · intro b c hb
      rcases hget b _ hb with ⟨p, h1, rfl, _, hni⟩ | ⟨p, h1, rfl, h2⟩
      · exact ⟨p, h1, rfl⟩
      · cases h2
    · intro b o l hb _ hl
      obtain ⟨l2, h1, _, h3, _⟩ := hobj b o hb
      rw [hl] at h1
      cases h1
      exact h3
    · intro b o l hb hn2 hl _
      rcases hget b o hb with ⟨p, h1, rfl, rfl, hni⟩ | ⟨p, h1, rfl, rfl⟩
      · simp only [ρ, if_neg hni, if_pos (List.mem_map.2 ⟨p, h1, rfl⟩ : p.1 ∈ G.map (·.1))] at hl
        cases hl
        rfl
      · cases hn2
  refine ⟨N, ρ, hN, hfine, hρk, ?_, hrel, ?_⟩
  · intro b l hb hl
    rcases hρi b l hl with ⟨_, h⟩ | ⟨h, _⟩
    · exact h
    · exact absurd hb h
  · have hargs : ∀ (i : Nat) v, args[i]? = some v → ∃ v', args'.toList[i]? = some v' ∧ VR ρ v v' := by
      intro i v hv
      obtain ⟨v', h1, h2⟩ := ha.get i v hv
      exact ⟨v', h1, pinB_pin 9 v (List.all_eq_true.1 c5 v (List.mem_of_getElem? hv)) ρ0 ρ v' hρk h2⟩
    refine VRs.of_get _ _ ha.length fun i v v' h1 h2 => ?_
    obtain ⟨u, h3, h4⟩ := hargs i v h1
    rw [h2] at h3
    cases h3
    exact h4
noncomputable def hval (r : HV) : Option (Value × List Prop) := match r with
  | some (v, _, _, R) => some (v, R)
  | none => none
noncomputable def hrow (r : HV) (b : Nat) : Option (Value × List Value × Nat × List Prop) := match r with
  | some (v, M, _, R) => match M.get b with
    | some (.row c sz) => some (v, c, sz, R)
    | _ => none
  | none => none
/-- What a run through calls has come to, where nothing new is left. -/
theorem FC.of_exec {P : Program} (hP : PF P) {G : Globals} {f : FuncId} {args : List Value} {km : List (Nat × List Value)} {v : Value} (nxt k : Nat) {hs : List Hint} {R : List Prop}
    (h0 : hval ((hexec P G k).call f args.toArray (mOf nxt (globs G ++ looses km)) hs) = some (v, R)) (hR : All R)
    (hc : (Nat.ble (Nat.succ nxt) bigger && (ltAll (ids (globs G ++ looses km)) nxt && (nodupB (ids (globs G ++ looses km)) && args.all (pinB 9 (ids (looses km)))))) = true) (hp : PinK (· ∈ ids (looses km)) km) (hv : pinB 9 (ids (looses km)) v = true) : FC P G f args km v := by
  unfold hval at h0
  split at h0
  rotate_left
  · cases h0
  rename_i v1 M' hs' R1 h
  cases h0
  intro ρ0 w args' k2 hg hm ha
  obtain ⟨N, ρ, hN, hf, hk1, hk2, hrel, hargs⟩ := exec_setup nxt hc hp hg hm ha
  refine ((hexec_sound hP k).call _ _ _ _ _ _ _ _ h hR N w hf ρ w args' none k2 hrel (by simpa using hargs)).mono ?_
  rintro e w' ⟨ρ', v', hle, rfl, hvr, hr'⟩
  refine ⟨v', rfl, ?_, ⟨hr'.below.os, hr'.below.tape, hr'.below.output, hr'.below.size, fun j hj => hr'.below.block j ((hN j).2 hj)⟩⟩
  refine pinB_pin 9 v hv ρ' ρ0 v' ?_ hvr
  intro b l hb hl
  obtain ⟨p, h1, rfl⟩ := List.mem_map.1 hb
  obtain ⟨q, h2, rfl⟩ := List.mem_map.1 h1
  obtain ⟨l0, h3, _⟩ := hm q h2
  have := hle _ _ (hk1 _ _ hb h3)
  rw [hl] at this
  cases this
  exact h3
/-- What a run through calls has come to, where one row is left that is new. -/
theorem FCN.of_exec0 {P : Program} (hP : PF P) {G : Globals} {f : FuncId} {args : List Value} {km : List (Nat × List Value)} {v : Value} {b : Nat} {c : List Value} {sz : Nat} (nxt k : Nat) {hs hs' : List Hint} {M' : AMem} {R : List Prop}
    (h : (hexec P G k).call f args.toArray (mOf nxt (globs G ++ looses km)) hs = some (v, M', hs', R)) (hR : All R)
    (hc : (Nat.ble (Nat.succ nxt) bigger && (ltAll (ids (globs G ++ looses km)) nxt && (nodupB (ids (globs G ++ looses km)) && args.all (pinB 9 (ids (looses km)))))) = true) (hp : PinK (· ∈ ids (looses km)) km) (hv : pinB 9 (b :: ids (looses km)) v = true)
    (hb : M'.get b = some (.row c sz)) (hpc : c.all pf = true) (hbk : (ids (looses km)).all (fun i => !(Nat.beq i b)) = true) : FCN P G f args km v b c sz := by
  have hne : ∀ i ∈ ids (looses km), i ≠ b := by
    intro i hi e
    have := List.all_eq_true.1 hbk i hi
    rw [e, Nat.beq_refl] at this
    cases this
  refine ⟨⟨hpc, fun p hp => hne p.1 (List.mem_map.2 ⟨(p.1, .rom p.2 .loose), List.mem_map.2 ⟨p, hp, rfl⟩, rfl⟩)⟩, ?_⟩
  intro ρ0 w args' k2 hg hm ha
  obtain ⟨N, ρ, hN, hf, hk1, hk2, hrel, hargs⟩ := exec_setup nxt hc hp hg hm ha
  refine ((hexec_sound hP k).call _ _ _ _ _ _ _ _ h hR N w hf ρ w args' none k2 hrel (by simpa using hargs)).mono ?_
  rintro e w' ⟨ρ', v', hle, rfl, hvr, hr'⟩
  obtain ⟨l, hl, hor, hnf⟩ := hr'.obj b _ hb rfl
  refine ⟨l, v', rfl, ?_, ⟨hr'.below.os, hr'.below.tape, hr'.below.output, hr'.below.size, fun j hj => hr'.below.block j ((hN j).2 hj)⟩, ?_, (hr'.used b l hl).1, hr'.nul b _ l hb rfl hl, ?_⟩
  · refine pinB_pin 9 v hv ρ' _ v' ?_ hvr
    intro i li hi hli
    unfold ext
    rcases List.mem_cons.1 hi with rfl | hi
    · rw [if_pos rfl, ← hl]; exact hli.symm ▸ rfl
    · have hib := hne i hi
      rw [if_neg hib]
      simp only [if_neg hib]
      obtain ⟨p, h1, rfl⟩ := List.mem_map.1 hi
      obtain ⟨q, h2, rfl⟩ := List.mem_map.1 h1
      obtain ⟨l0, h3, _⟩ := hm q h2
      have := hle _ _ (hk1 _ _ hi h3)
      rw [hli] at this
      cases this
      exact h3
  · apply Classical.byContradiction
    intro hlt
    exact hnf rfl ((hN _).2 (by omega))
  · exact OR.of_pf hpc hor
theorem FCN.of_exec {P : Program} (hP : PF P) {G : Globals} {f : FuncId} {args : List Value} {km : List (Nat × List Value)} {v v2 : Value} {b b2 : Nat} {c : List Value} {sz : Nat} (nxt k : Nat) {hs : List Hint} {R : List Prop}
    (h0 : hrow ((hexec P G k).call f args.toArray (mOf nxt (globs G ++ looses km)) hs) b = some (v, c, sz, R)) (hR : All R)
    (hc : (Nat.ble (Nat.succ nxt) bigger && (ltAll (ids (globs G ++ looses km)) nxt && (nodupB (ids (globs G ++ looses km)) && args.all (pinB 9 (ids (looses km)))))) = true) (hp : PinK (· ∈ ids (looses km)) km) (hv : pinB 9 (b :: ids (looses km)) v = true)
    (hpc : c.all pf = true) (hbk : (ids (looses km)).all (fun i => !(Nat.beq i b)) = true) (hbk2 : (ids (looses km)).all (fun i => !(Nat.beq i b2)) = true) (hren : VR (Ren.emb [(b2, b, 0)]) v2 v) : FCN P G f args km v2 b2 c sz := by
  unfold hrow at h0
  split at h0
  rotate_left
  · cases h0
  rename_i v1 M' hs' R1 h
  split at h0
  rotate_left
  · cases h0
  rename_i c1 sz1 hb
  cases h0
  have key := FCN.of_exec0 hP nxt k h hR hc hp hv hb hpc hbk
  refine ⟨⟨hpc, fun p hp e => ?_⟩, fun ρ w args' k2 hg hm ha => (key.2 ρ w args' k2 hg hm ha).mono ?_⟩
  · have := List.all_eq_true.1 hbk2 p.1 (List.mem_map.2 ⟨(p.1, .rom p.2 .loose), List.mem_map.2 ⟨p, hp, rfl⟩, rfl⟩)
    rw [e, Nat.beq_refl] at this
    cases this
  · rintro e w' ⟨l, v', he, hvr, hrest⟩
    refine ⟨l, v', he, VR.mono ?_ (VR.comp (fun _ _ => Ren.emb_sz) (fun _ _ => Ren.emb_top) hren hvr), hrest⟩
    intro i li hi
    unfold comp at hi
    unfold ext
    simp only at hi
    by_cases e2 : i = b2
    · subst e2
      have h1 : Ren.emb [(i, b, 0)] i = some ⟨b, 0, 0, 0⟩ := by
        unfold Ren.emb Ren.get
        rw [show Nat.beq (i, b, 0).1 i = true from Nat.beq_refl i]
        rfl
      rw [h1] at hi
      simp only [ext_self] at hi
      rw [if_pos rfl, ← hi]
      simp
    · have h1 : Ren.emb [(b2, b, 0)] i = none := by
        unfold Ren.emb Ren.get
        have : Nat.beq (b2, b, 0).1 i = false := by
          cases hq : Nat.beq b2 i with
          | false => rfl
          | true => exact absurd (Nat.eq_of_beq_eq_true hq).symm e2
        rw [this]
        rfl
      rw [h1] at hi
      cases hi
end Go.Sim
namespace Go.Sim
/-! ### Lists in memory, places in code -/
def cA : Code → List Nat → Code
  | c, [] => c
  | .seq a b, i :: l => bif Nat.beq i 0 then cA a l else cA b l
  | .cond _ a b, i :: l => bif Nat.beq i 0 then cA a l else cA b l
  | .block _ b, _ :: l => cA b l
  | .loop b, _ :: l => cA b l
  | .scope b, _ :: l => cA b l
  | .rangeFunc _ _ a b, i :: l => bif Nat.beq i 0 then cA a l else cA b l
  | c, _ => c
def at_ {α : Type} (z : α) (l : List α) (j : Int) : α := l.getD j.toNat z
def encL {α : Type} (f : α → List Value) (l : List α) : List Value := l.flatMap f
theorem encL_pf {α : Type} {f : α → List Value} (hf : ∀ x, ∀ v ∈ f x, pf v = true) (l : List α) : ∀ v ∈ encL f l, pf v = true := by
  intro v hv
  obtain ⟨x, _, h2⟩ := List.mem_flatMap.1 hv
  exact hf x v h2
theorem encL_get {α : Type} {f : α → List Value} {sz : Nat} (hf : ∀ x, (f x).length = sz) (z : α) : ∀ (l : List α) (j k : Nat), j < l.length → k < sz → (encL f l)[j * sz + k]? = (f (l.getD j z))[k]? := by
  intro l
  induction l with
  | nil => intro j k h; cases h
  | cons x l ih =>
    intro j k h hk
    unfold encL
    rw [List.flatMap_cons]
    cases j with
    | zero => rw [Nat.zero_mul, Nat.zero_add, List.getElem?_append_left (by rw [hf]; exact hk)]; rfl
    | succ j =>
      rw [List.getElem?_append_right (by rw [hf, Nat.succ_mul]; omega), hf]
      have := ih j k (by simpa using h) hk
      unfold encL at this
      rw [show (j + 1) * sz + k - sz = j * sz + k by rw [Nat.succ_mul]; omega, this]
      simp
theorem cell_of {M : AMem} {b : Nat} {c : List Value} (h : (∃ sz, M.get b = some (.row c sz)) ∨ (∃ g, M.get b = some (.rom c g))) (off : Nat) : M.cell? ⟨b, off, none⟩ = c[off]? := by
  unfold AMem.cell?
  rcases h with ⟨sz, h⟩ | ⟨g, h⟩ <;> simp only [h, nth_eq]
theorem loads_row {P : Program} {M : AMem} {b : Nat} {c : List Value} (h : (∃ sz, M.get b = some (.row c sz)) ∨ (∃ g, M.get b = some (.rom c g))) (off : Nat) : ∀ (n i : Nat) (acc : Array Value) (vs : List Value), vs.length = n → (∀ k, k < n → c[off + i + k]? = vs[k]?) →
    arun P (Go.loadCellsFrom ⟨b, off, none⟩ i n acc) M = some ((acc.toList ++ vs).toArray, M) := by
  intro n
  induction n with
  | zero =>
    intro i acc vs hl _
    have : vs = [] := List.length_eq_zero_iff.1 hl
    subst this
    simp [Go.loadCellsFrom, arun_pure']
  | succ n ih =>
    intro i acc vs hl hc
    cases vs with
    | nil => cases hl
    | cons v vs =>
      simp only [Go.loadCellsFrom, arun_bind]
      have h0 := hc 0 (by omega)
      rw [add_off]
      unfold Go.load
      rw [arun_load, cell_of h]
      simp only [Nat.add_zero, List.getElem?_cons_zero] at h0
      rw [h0]
      simp only [arun_pure]
      rw [ih (i + 1) (acc.push v) vs (by simpa using hl) (fun k hk => by have := hc (k + 1) (by omega); simp only [List.getElem?_cons_succ] at this; rw [← this]; congr 1; omega)]
      simp
theorem RowLd.agg {P : Program} {t : TypeId} {c : List Value} {off : Nat} {i : TypeInfo} (hu : (∃ fs, P.underlying t = some (.struct fs)) ∨ (∃ n e, P.underlying t = some (.array n e))) (hi : P.info? t = some i) (vs : List Value) (hl : vs.length = i.size)
    (hc : ∀ k, k < vs.length → c[off + k]? = vs[k]?) : RowLd P t c off (.agg vs.toArray) := by
  intro M b h
  have hagg : arun P (Go.isAgg t) M = some (true, M) := by
    unfold Go.isAgg Go.underlying
    rcases hu with ⟨fs, hu⟩ | ⟨n, e, hu⟩ <;> simp [arun_bind, arun_program, Go.program, hu, arun_pure', arun_pure]
  have hsz : arun P (Go.sizeOf t) M = some (i.size, M) := by
    unfold Go.sizeOf Go.typeInfo
    simp [arun_bind, arun_program, Go.program, hi, arun_pure', arun_pure]
  have hld : arun P (Go.loadCells ⟨b, off, none⟩ i.size) M = some (vs.toArray, M) := by
    unfold Go.loadCells
    have := loads_row (P := P) h off i.size 0 #[] vs hl (fun k hk => by rw [Nat.add_zero]; exact hc k (by omega))
    simpa using this
  unfold Instr.loadAt Go.loadVar
  simp only [arun_bind, Instr.sureAddr, arun_pure', hagg, if_true, hsz, hld]
def notAgg (d : TypeDesc) : Bool :=
  match d with
  | .struct _ => false
  | .array _ _ => false
  | _ => true
theorem RowLd.one {P : Program} {t : TypeId} {c : List Value} {off : Nat} {d : TypeDesc} {v : Value} (hu : P.underlying t = some d) (hd : notAgg d = true) (hc : c[off]? = some v) : RowLd P t c off v := by
  intro M b h
  have hagg : arun P (Go.isAgg t) M = some (false, M) := by
    unfold Go.isAgg Go.underlying
    cases d <;> first | (cases hd; done) | simp [arun_bind, arun_program, Go.program, hu, arun_pure', arun_pure]
  unfold Instr.loadAt Go.loadVar Go.load
  simp only [arun_bind, Instr.sureAddr, arun_pure', hagg, Bool.false_eq_true, if_false, arun_load, cell_of h, hc, arun_pure]
theorem RowLd.elem {P : Program} {t : TypeId} {i : TypeInfo} {α : Type} {f : α → List Value} {sz : Nat} (hf : ∀ x, (f x).length = sz) (z : α) (hu : (∃ fs, P.underlying t = some (.struct fs)) ∨ (∃ n e, P.underlying t = some (.array n e))) (hi : P.info? t = some i) (hs : i.size = sz)
    (l : List α) (j : Int) (hj : 0 ≤ j ∧ j < (l.length : Nat)) : RowLd P t (encL f l) (0 + j.toNat * sz) (.agg (f (at_ z l j)).toArray) := by
  refine RowLd.agg hu hi _ (by rw [hf, hs]) fun k hk => ?_
  rw [hf] at hk
  rw [Nat.zero_add]
  exact encL_get hf z l j.toNat k (by omega) hk
theorem RowLd.part {P : Program} {t : TypeId} {d : TypeDesc} {α : Type} {f : α → List Value} {sz : Nat} (hf : ∀ x, (f x).length = sz) (z : α) (hu : P.underlying t = some d) (hd : notAgg d = true)
    (l : List α) (j : Int) (hj : 0 ≤ j ∧ j < (l.length : Nat)) (k : Nat) (v : Value) (hv : (f (at_ z l j))[k]? = some v) (hk : k < sz) : RowLd P t (encL f l) (0 + j.toNat * sz + k) v := by
  refine RowLd.one hu hd ?_
  rw [Nat.zero_add, encL_get hf z l j.toNat k (by omega) hk]
  exact hv
theorem RowLd.partA {P : Program} {t : TypeId} {i : TypeInfo} {α : Type} {f : α → List Value} {sz : Nat} (hf : ∀ x, (f x).length = sz) (z : α) (hu : (∃ fs, P.underlying t = some (.struct fs)) ∨ (∃ n e, P.underlying t = some (.array n e))) (hi : P.info? t = some i)
    (l : List α) (j : Int) (hj : 0 ≤ j ∧ j < (l.length : Nat)) (k : Nat) (vs : List Value) (hl : vs.length = i.size) (hk : k + i.size ≤ sz) (hv : ∀ m, m < i.size → (f (at_ z l j))[k + m]? = vs[m]?) : RowLd P t (encL f l) (0 + j.toNat * sz + k) (.agg vs.toArray) := by
  refine RowLd.agg hu hi vs hl fun m hm => ?_
  rw [Nat.zero_add, Nat.add_assoc, encL_get hf z l j.toNat (k + m) (by omega) (by omega)]
  exact hv m (by omega)
end Go.Sim
namespace Go.Sim
open Go.RowKit

/-! ### Loops inside of runs through calls, by induction -/
def rfP : Code → Array Tmp
  | .rangeFunc _ ps _ _ => ps
  | _ => #[]
def rfA : Code → Code
  | .rangeFunc _ _ a _ => a
  | c => c
def rfB : Code → Code
  | .rangeFunc _ _ _ b => b
  | c => c
noncomputable def tU (kn : List (Nat × Value)) : Tr Value := List.rec (motive := fun _ => Tr Value) .nil (fun p _ ih => Tr.set p.2 ih (Nat.succ p.1)) kn
noncomputable def hstop (r : HC) (ts bs : List Nat) : Option (AEx × List Nat × List (Nat × Value) × List (Nat × AObj) × List Prop) :=
  match r with
  | some (e, T, D, M, _, R) => bif knownAll T ts then match takeAll M bs with
    | some km => some (e, D, ts.map (fun t => (t, slot T t)), km, R)
    | none => none
    else none
  | none => none
theorem hstop_some {r : HC} {ts bs : List Nat} {e : AEx} {D : List Nat} {kn : List (Nat × Value)} {km : List (Nat × AObj)} {R : List Prop} (h : hstop r ts bs = some (e, D, kn, km, R)) :
    ∃ T M hs, r = some (e, T, D, M, hs, R) ∧ (∀ p ∈ kn, slot T p.1 = p.2) ∧ ∀ p ∈ km, M.get p.1 = some p.2 := by
  unfold hstop at h
  split at h
  rotate_left
  · cases h
  rename_i e1 T D1 M hs R1
  obtain ⟨_, h⟩ := cond_some h
  split at h
  rotate_left
  · cases h
  rename_i km1 hkm
  cases h
  exact ⟨T, M, hs, rfl, fun p hp => by obtain ⟨t, _, rfl⟩ := List.mem_map.1 hp; rfl, takeAll_at _ _ hkm⟩
section
variable {P : Program}
theorem LoopC.body {G : Globals} (hP : PF P) {n : Nat} {ro : Option Nat} {body : Code} {D : List Nat} {kn : List (Nat × Value)} {km : List (Nat × AObj)} {nxt : Nat} {e : AEx} {kn1 : List (Nat × Value)} {km1 : List (Nat × AObj)} {hs : List Hint} {ts bs : List Nat} {R : List Prop}
    (ok : LCok n ro D kn km nxt) (ok1 : LCok n ro D kn1 km1 nxt) (hids : ids km1 = ids km) (hR : All R)
    (h : hstop ((hexec P G 60).code n ro body (tOf n kn) D (mOf nxt km) hs) ts bs = some (e, D, kn1, km1, R))
    {N : Prot} {w0 : World} (hf : Fine G N w0) {ρ : Emb} {w : World} {a : Act} {ro' : Option Nat} (hr : Rel N w0 ρ (mOf nxt km) w) (ht : TJ ρ n (tOf n kn) a.tmps) (hd : DR ρ D a.defers) (hro : RoR ρ ro ro') (k : Nat) :
    body.wpIn (fen ro') k P (PostJ N w0 ρ n e (tOf n kn1) D (mOf nxt km1)) a w := by
  obtain ⟨T1, M1, hs1, h1, hT, hM⟩ := hstop_some h
  obtain ⟨hc, hp⟩ := ok1
  simp only [Bool.and_eq_true] at hc
  obtain ⟨c1, c2, c3, c4, c5, c6, c7⟩ := hc
  have hn : nxt < bigger := by have : Nat.succ nxt ≤ bigger := by simpa using c1
                               exact this
  have hc0 := ok.1
  simp only [Bool.and_eq_true] at hc0
  have c20 := hc0.2.1
  refine wpIn_mono ((hexec_sound hP 60).code _ _ _ _ _ _ _ _ _ _ _ _ _ h1 hR N w0 hf ρ w a ro' k hr ht hd hro) ?_
  rintro e1 a1 w1 ⟨rfl, ρ1, hle, hr1, ht1, hd1⟩
  refine ⟨rfl, part ρ1 nxt km1, ?_, hr1.restrict hn c2 hM hp, ht1.part hn c2 c3 c4 hT, hd1.part hn c2 c6⟩
  intro b l hb
  have hlt : ∀ p ∈ km, p.1 < nxt := fun p hp => ltAll_at c20 p.1 (List.mem_map.2 ⟨p, hp, rfl⟩)
  obtain ⟨_, o, ho⟩ := hr.used b l hb
  exact part_of hn c2 (by rw [hids]; exact List.mem_map.2 ⟨_, mOf_get hn km hlt b o ho, rfl⟩) (hle _ _ hb)
/-- A round, and then the rest. -/
theorem LoopC.go {G : Globals} (hP : PF P) {n : Nat} {ro : Option Nat} {body : Code} {D : List Nat} {kn : List (Nat × Value)} {km : List (Nat × AObj)} {nxt : Nat} {e : AEx} {kn1 kn' : List (Nat × Value)} {km1 km' : List (Nat × AObj)} (hs : List Hint) (ts bs : List Nat) {R : List Prop}
    (ok : LCok n ro D kn km nxt) (hR : All R) (next : LoopC P G n ro body D kn1 km1 nxt e kn' km')
    (h : hstop ((hexec P G 60).code n ro body (tOf n kn) D (mOf nxt km) hs) ts bs = some (.normal, D, kn1, km1, R))
    (hids : ids km1 = ids km) : LoopC P G n ro body D kn km nxt e kn' km' := by
  refine ⟨⟨ok, next.1.2.trans hids⟩, fun N w0 hf ρ w a ro' hr ht hd hro b q cs hb => ?_⟩
  obtain ⟨e1, a1, w1, ⟨rfl, ρ1, hle, hr1, ht1, hd1⟩, harr⟩ := LoopC.body hP ok next.1.1 hids hR h hf hr ht hd hro 0 b (.inLoop body :: q) cs hb trivial (fen_room _ _)
  obtain ⟨e2, a2, w2, hp2, harr2⟩ := next.2 N w0 hf ρ1 w1 a1 ro' hr1 ht1 hd1 (hro.mono hle) b q cs hb
  exact ⟨e2, a2, w2, hp2.le hle, .of_steps (StepsIn.trans harr (.one (fenced_calm (n := 0) trivial (fen_room _ _) rfl) stepR_inLoop)) harr2⟩
/-- The last round. -/
theorem LoopC.out {G : Globals} (hP : PF P) {n : Nat} {ro : Option Nat} {body : Code} {D : List Nat} {kn : List (Nat × Value)} {km : List (Nat × AObj)} {nxt : Nat} {e : AEx} {kn' : List (Nat × Value)} {km' : List (Nat × AObj)} (hs : List Hint) (ts bs : List Nat) {R : List Prop}
    (ok : LCok n ro D kn km nxt) (ok1 : LCok n ro D kn' km' nxt) (hR : All R)
    (h : hstop ((hexec P G 60).code n ro body (tOf n kn) D (mOf nxt km) hs) ts bs = some (e, D, kn', km', R))
    (hne : (match e with | .normal => false | _ => true) = true) (hids : ids km' = ids km) : LoopC P G n ro body D kn km nxt e kn' km' := by
  refine ⟨⟨ok, hids⟩, fun N w0 hf ρ w a ro' hr ht hd hro b q cs hb => ?_⟩
  obtain ⟨e1, a1, w1, hp, harr⟩ := LoopC.body hP ok ok1 hids hR h hf hr ht hd hro 0 b (.inLoop body :: q) cs hb trivial (fen_room _ _)
  refine ⟨e1, a1, w1, hp, .pass (x := .inLoop body) rfl (fun _ _ => .inl ?_) harr⟩
  obtain ⟨rfl, _⟩ := hp
  intro he
  cases e with
  | normal => cases hne
  | ret => cases he
  | exit id => cases he
end
structure PA (R : List Prop) : Type where
  h : All R
theorem aa {R S : List Prop} (h : PA R) (t : All S) : All (R ++ S) := All.append.2 ⟨h.h, t⟩
/-- What is asked is read off from its proof. -/
theorem FC.x {P : Program} (hP : PF P) {G : Globals} {f : FuncId} {args : List Value} {km : List (Nat × List Value)} {v : Value} (nxt k : Nat) (hs : List Hint) {R : List Prop} (hR : All R)
    (h0 : hval ((hexec P G k).call f args.toArray (mOf nxt (globs G ++ looses km)) hs) = some (v, R))
    (hc : (Nat.ble (Nat.succ nxt) bigger && (ltAll (ids (globs G ++ looses km)) nxt && (nodupB (ids (globs G ++ looses km)) && args.all (pinB 9 (ids (looses km)))))) = true) (hp : PinK (· ∈ ids (looses km)) km) (hv : pinB 9 (ids (looses km)) v = true) : FC P G f args km v :=
  FC.of_exec hP nxt k h0 hR hc hp hv
end Go.Sim
