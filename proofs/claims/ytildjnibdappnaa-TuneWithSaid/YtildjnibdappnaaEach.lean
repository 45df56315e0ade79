/- A region that draws its order: what yields one value and makes at most new blocks may be taken first; what yields a new block's address, or stores, comes when its turn is. -/
import Derived.Test.YtildjnibdappnaaDraw
namespace Go.Proofs.Ytildjnibdappnaa
open Go.ChangeShapes Go.WideShapes Go.ChangeAt Go.RowKit

section
variable {P : Program} {ops : Array Oper} {Q : Exit → Act → World → Prop} {md : Region.Mode} {S S' : World → Prop} {js : List Nat}

/-- A condition that new blocks do not turn. -/
def Stab (S : World → Prop) : Prop := ∀ w w', S w → Below w.heap.size w w' → S w'

theorem stab_true : Stab fun _ => True := fun _ _ _ _ => trivial
theorem stab_and {S T : World → Prop} (h : Stab S) (k : Stab T) : Stab fun w => S w ∧ T w := fun w w' ⟨a, b⟩ hb => ⟨h w w' a hb, k w w' b hb⟩
theorem stab_heap (g : Nat) (o : Obj) : Stab fun w => w.heap[g]? = some o := fun _ _ h hb => (hb.block _ (Array.getElem?_eq_some_iff.1 h).1).trans h
theorem stab_below {B : Nat} {w0 : World} (hB : B ≤ w0.heap.size) : Stab fun w => Below B w0 w := fun _ _ h hb => h.trans (hb.mono (Nat.le_trans hB h.size))
theorem stab_pure (p : Prop) : Stab fun _ => p := fun _ _ h _ => h

/-- The operation yields v, and makes at most new blocks. -/
def effB (P : Program) (o : Oper) (ρ : Operand → Value) (v : Value) (w : World) : Prop :=
  match (execOp ρ o).run P w with
  | .ok (.value u) w' => (o.dst = none ∨ u = v) ∧ Below w.heap.size w w'
  | .ok .skip w' => (o.dst = none ∨ undef = v) ∧ Below w.heap.size w w'
  | .ok (.enter f args) w' => Calls P f args w' fun e w'' => (∃ u, e = .returned u ∧ (o.dst = none ∨ u = v)) ∧ Below w.heap.size w w''
  | .ok (.row row args) w' => Rows P row args w' fun u w'' => (o.dst = none ∨ u = v) ∧ Below w.heap.size w w''
  | _ => False

def EffB (P : Program) (ops : Array Oper) (S : World → Prop) (o : Oper) (v : Value) (a : Act) : Prop :=
  (Region.wanted o (yielded ops a.tmps) = true ∧ ∀ w, S w → effB P o a.eval v w) ∨ (Region.wanted o (yielded ops a.tmps) = false ∧ v = undef)

theorem EffB.of_same {o : Oper} {v : Value} {a a' : Act} (hy : EffB P ops S o v a) (he : execOp a'.eval o = execOp a.eval o)
    (hw : Region.wanted o (yielded ops a'.tmps) = Region.wanted o (yielded ops a.tmps)) : EffB P ops S o v a' := by
  unfold EffB effB at *
  rw [he, hw]
  exact hy

theorem EffB.weaken {o : Oper} {v : Value} {a : Act} (hy : EffB P ops S o v a) (h : ∀ w, S' w → S w) : EffB P ops S' o v a :=
  hy.imp (fun ⟨hw, k⟩ => ⟨hw, fun w hS => k w (h w hS)⟩) id

theorem EffB.wpOp {i : Nat} {o : Oper} {v : Value} {a : Act} (hi : ops[i]? = some o) (hy : EffB P ops S o v a)
    {K : Act → World → Prop} {w : World} (hS : S w) (h : ∀ w', Below w.heap.size w w' → K (a.put o.dst v) w') : wpOp P ops Q i K a w := by
  unfold Go.wpOp
  simp only [hi]
  rcases hy with ⟨hw, hv⟩ | ⟨hw, rfl⟩
  · simp only [hw, if_true, Oper.wp]
    left
    have hv := hv w hS
    unfold effB at hv
    generalize (execOp a.eval o).run P w = r at *
    cases r with
    | ok n w' =>
      cases n <;> simp only [Oper.upon] at hv ⊢
      case value u => rw [put_of hv.1]; exact h _ hv.2
      case skip => rw [put_of hv.1]; exact h _ hv.2
      case enter f args =>
        refine hv.mono fun e w'' ⟨⟨u, he, hu⟩, hS'⟩ => ?_
        subst he
        show K (a.put o.dst u) w''
        rw [put_of hu]
        exact h _ hS'
      case row row args => exact hv.mono fun u w'' ⟨hu, hS'⟩ => by rw [put_of hu]; exact h _ hS'
    | halt x w' => exact hv.elim
  · simp only [hw, Bool.false_eq_true, if_false]; exact h _ (Below.refl _ _)

/-- One operation 'oj', apart from 'oi': whether 'oi''s value is already in its temporary makes no difference to it, and it makes none to 'oi'. -/
theorem wpOp_putB {j : Nat} {oi oj : Oper} {v : Value} {T : Act → Prop} (hj : ops[j]? = some oj) (hap : oi.apart ops oj = true)
    (hsj : ∀ cs b, oj.op ≠ .select cs b) (hT : ∀ a u, T a → T (a.put oj.dst u)) (hTd : ∀ (a : Act) d, T a → T { a with defers := d })
    (hQ : ∀ c a w, Q (.panic c) (a.put oi.dst v) w → Q (.panic c) a w) {K : Act → World → Prop} {a : Act} {w : World}
    (hy : T a) (h : wpOp P ops Q j K (a.put oi.dst v) w) :
    wpOp P ops Q j (fun a' w' => T a' ∧ K (a'.put oi.dst v) w') a w := by
  obtain ⟨h1, h2, h3⟩ := Oper.apart_spec hap
  unfold wpOp at *
  simp only [hj] at *
  rw [wanted_put oj a oi.dst v h1] at h
  split
  · rename_i hw
    simp only [hw, if_true] at h
    rcases h with h | ⟨hasks, hlets⟩
    case inr => exact .inr ⟨by unfold Oper.asks at *; rw [execOp_put oj hsj a oi.dst v h1] at hasks; exact hasks, hlets⟩
    refine .inl ?_
    unfold Oper.wp at *
    rw [execOp_put oj hsj a oi.dst v h1] at h
    generalize (execOp a.eval oj).run P w = r at *
    cases r with
    | ok n w' =>
      cases n <;> simp only [Oper.upon] at h ⊢
      case value u => exact ⟨hT a u hy, by rw [← Act.put_comm a v u h2]; exact h⟩
      case skip => exact ⟨hT a _ hy, by rw [← Act.put_comm a v undef h2]; exact h⟩
      case defer d =>
        refine ⟨hT _ _ (hTd _ _ hy), ?_⟩
        rw [← Act.put_comm _ v undef h2, ← Act.put_defers]
        exact h
      case enter f args =>
        refine Calls.mono h fun e w'' he => ?_
        cases e with
        | returned u => exact ⟨hT a u hy, by rw [← Act.put_comm a v u h2]; exact he⟩
        | panicked c => exact hQ _ _ _ he
        | outgrown => exact he
      case row row args => exact Rows.mono h fun u w'' he => ⟨hT a u hy, by rw [← Act.put_comm a v u h2]; exact he⟩
    | halt x w' =>
      cases x <;> simp only [Oper.upon] at h ⊢
      case panic u => exact hQ _ _ _ h
  · rename_i hw
    simp only [hw] at h
    exact ⟨hT a _ hy, by rw [← Act.put_comm a v undef h2]; exact h⟩

/-- Whatever order is picked. -/
def wpAnyE (P : Program) (md : Region.Mode) (ops : Array Oper) (Q : Exit → Act → World → Prop) (js : List Nat) : Nat → Array Bool → Act → (World → Prop) → Prop
  | 0, listed, a, S => Region.ready md ops listed = [] ∧ ∀ w, S w → Q .normal a w
  | fuel + 1, listed, a, S =>
    (Region.ready md ops listed = [] → ∀ w, S w → Q .normal a w) ∧
    ∀ j ∈ Region.ready md ops listed, ∀ w, S w → wpOp P ops Q j (fun a' w' => ∃ S', S' w' ∧ Stab S' ∧ (j ∈ js ∨ ∀ w, S' w → S w) ∧ wpAnyE P md ops Q js fuel (listed.setIfInBounds j true) a' S') a w

theorem wpAny_of_E : ∀ (fuel : Nat) (listed : Array Bool) (a : Act) (S : World → Prop) (w : World), wpAnyE P md ops Q js fuel listed a S → S w → wpAny P md ops Q fuel listed a w
  | 0, _, _, _, w, h, hS => ⟨h.1, h.2 w hS⟩
  | fuel + 1, _, _, _, w, h, hS => ⟨fun hr => h.1 hr w hS, fun i hi =>
    wpOp_mono (fun a' w' ⟨S', hS', _, _, hk⟩ => wpAny_of_E fuel _ a' S' w' hk hS') (h.2 i hi w hS)⟩

theorem wpAnyE_first {i : Nat} {oi : Oper} {v : Value} (hi : ops[i]? = some oi) (hsel : ∀ (j : Nat) (o : Oper) cs b, ops[j]? = some o → o.op ≠ .select cs b)
    (hQ : ∀ c a w, Q (.panic c) (a.put oi.dst v) w → Q (.panic c) a w) :
    ∀ (fuel : Nat) (listed : Array Bool) (a : Act) (S : World → Prop),
      (∀ j oj, ops[j]? = some oj → j ≠ i → listed.getD j true = false → (∀ e ∈ oj.after, Region.binds md e = true → e.on ≠ i) → oi.apart ops oj = true) →
      listed.size = ops.size → Closed md ops listed → i ∈ Region.ready md ops listed → Stab S →
      EffB P ops S oi v a → (waitsB md ops js i = true ∨ EffB P ops (fun _ => True) oi v a) →
      wpAnyE P md ops Q js fuel (listed.setIfInBounds i true) (a.put oi.dst v) S → wpAnyE P md ops Q js (fuel + 1) listed a S := by
  intro fuel
  induction fuel with
  | zero =>
    intro listed a S _ _ _ hr hst hy _ H
    refine ⟨fun h => (by rw [h] at hr; cases hr), fun j hj w hS => ?_⟩
    by_cases hji : j = i
    · subst hji; exact hy.wpOp hi hS fun w' hb => ⟨S, hst w w' hS hb, hst, .inr fun _ h => h, H⟩
    · have := ready_mono hj hji
      rw [H.1] at this
      cases this
  | succ fuel ih =>
    intro listed a S hfree hsz hcl hr hst hy hy1 H
    refine ⟨fun h => (by rw [h] at hr; cases hr), fun j hj w hS => ?_⟩
    by_cases hji : j = i
    · subst hji; exact hy.wpOp hi hS fun w' hb => ⟨S, hst w w' hS hb, hst, .inr fun _ h => h, H⟩
    · obtain ⟨hjun, oj, hoj, hall⟩ := mem_ready.1 hj
      have hiun := (mem_ready.1 hr).1
      have hlt : i < ops.size := (Array.getElem?_eq_some_iff.1 hi).1
      have hnot : ∀ e ∈ oj.after, Region.binds md e = true → e.on ≠ i := fun e he hb heq => by
        have h1 := hall e he hb
        rw [heq] at h1
        have h2 : i < listed.size := by omega
        simp [h2] at hiun h1
        rw [hiun] at h1
        cases h1
      have hap := hfree j oj hoj hji hjun hnot
      obtain ⟨h1, h2, h3⟩ := Oper.apart_spec hap
      have hk := H.2 j (ready_mono hj hji) w hS
      have hk2 := wpOp_putB (T := fun a' => EffB P ops S oi v a' ∧ (waitsB md ops js i = true ∨ EffB P ops (fun _ => True) oi v a')) hoj hap (fun cs b => hsel j oj cs b hoj)
        (fun a u ⟨k1, k2⟩ => ⟨k1.of_same (execOp_put oi (fun cs b => hsel i oi cs b hi) a oj.dst u h3) (wanted_put oi a oj.dst u h3),
          k2.imp id fun k => k.of_same (execOp_put oi (fun cs b => hsel i oi cs b hi) a oj.dst u h3) (wanted_put oi a oj.dst u h3)⟩)
        (fun a d ⟨k1, k2⟩ => ⟨k1.of_same rfl rfl, k2.imp id fun k => k.of_same rfl rfl⟩) hQ ⟨hy, hy1⟩ hk
      have hfree' : ∀ k ok, ops[k]? = some ok → k ≠ i → (listed.setIfInBounds j true).getD k true = false →
          (∀ e ∈ ok.after, Region.binds md e = true → e.on ≠ i) → oi.apart ops ok = true := fun k ok hk hki hun hno => by
        refine hfree k ok hk hki ?_ hno
        by_cases hjk : j = k
        · subst hjk; exact hjun
        · rw [getD_set_ne true hjk] at hun; exact hun
      refine wpOp_mono (fun a' w' ⟨⟨k1, k2⟩, S', hS', hst', hsub, hrec⟩ => ?_) hk2
      have hy' : EffB P ops S' oi v a' := by
        rcases hsub with hjs | hsub
        · rcases k2 with hw | k2
          · exfalso
            unfold waitsB at hw
            have hw := List.all_eq_true.1 hw j hjs
            have hl := reach_listed hcl 3 j i (fun o ho => by
              obtain rfl : o = oj := Option.some.inj (ho.symm.trans hoj)
              exact hall) hw
            have h2 : i < listed.size := by omega
            simp [h2] at hiun hl
            rw [hiun] at hl
            cases hl
          · exact k2.weaken fun _ _ => trivial
        · exact k1.weaken hsub
      refine ⟨S', hS', hst', hsub, ih (listed.setIfInBounds j true) a' S' hfree' (by simpa using hsz) (closed_set hcl hj) (ready_mono hr (Ne.symm hji)) hst' hy' k2 ?_⟩
      rw [Array.setIfInBounds_comm _ _ hji]
      exact hrec

/-- Take number i. -/
theorem wpAnyE_take (i : Nat) {oi : Oper} {tail : List Oper} {v : Value} {fuel : Nat} {listed : Array Bool} {a : Act} (hi' : ops.toList.drop i = oi :: tail)
    (hs : Region.noSelect ops = true) (hf : Region.free md ops listed i = true) (hr : ((Region.ready md ops listed).contains i && listed.size == ops.size && closedB md ops listed) = true)
    (hQ : ∀ c a w, Q (.panic c) (a.put oi.dst v) w → Q (.panic c) a w) (hst : Stab S)
    (hy : EffB P ops S oi v a) (hy1 : waitsB md ops js i = true ∨ EffB P ops (fun _ => True) oi v a)
    (h : wpAnyE P md ops Q js fuel (listed.setIfInBounds i true) (a.put oi.dst v) S) : wpAnyE P md ops Q js (fuel + 1) listed a S := by
  have hi : ops[i]? = some oi := by
    have := congrArg (·[0]?) hi'
    simpa using this
  simp only [Bool.and_eq_true, beq_iff_eq] at hr
  exact wpAnyE_first hi (Region.noSelect_spec hs) hQ fuel listed a S (Region.free_spec hi hf) hr.1.2 (closed_of hr.2) (by simpa using hr.1.1) hst hy hy1 h

/-- The only one that may come up. -/
theorem wpAnyE_one (j : Nat) {o : Oper} {tail : List Oper} {fuel : Nat} {listed : Array Bool} {a : Act} (hi' : ops.toList.drop j = o :: tail)
    (hr : (Region.ready md ops listed == [j]) = true) (hw : Region.wanted o (yielded ops a.tmps) = true)
    (h : ∀ w, S w → o.wp P a w (fun a' w' => ∃ S', S' w' ∧ Stab S' ∧ (j ∈ js ∨ ∀ w, S' w → S w) ∧ wpAnyE P md ops Q js fuel (listed.setIfInBounds j true) a' S') Q) : wpAnyE P md ops Q js (fuel + 1) listed a S := by
  have hi : ops[j]? = some o := by
    have := congrArg (·[0]?) hi'
    simpa using this
  simp only [beq_iff_eq] at hr
  refine ⟨fun h0 => (by rw [h0] at hr; cases hr), fun i hi2 w hS => ?_⟩
  rw [hr] at hi2
  obtain rfl : i = j := by simpa using hi2
  unfold Go.wpOp
  simp only [hi, hw, if_true]
  exact .inl (h w hS)

/-- Two are ready, each of a kind whose value hangs on when it is done: both ways. -/
theorem wpAnyE_two (i j : Nat) {oi oj : Oper} {ti tj : List Oper} {fuel : Nat} {listed : Array Bool} {a : Act} (hi' : ops.toList.drop i = oi :: ti) (hj' : ops.toList.drop j = oj :: tj)
    (hr : (Region.ready md ops listed == [i, j]) = true) (hwi : Region.wanted oi (yielded ops a.tmps) = true) (hwj : Region.wanted oj (yielded ops a.tmps) = true)
    (h1 : ∀ w, S w → oi.wp P a w (fun a' w' => ∃ S', S' w' ∧ Stab S' ∧ (i ∈ js ∨ ∀ w, S' w → S w) ∧ wpAnyE P md ops Q js fuel (listed.setIfInBounds i true) a' S') Q)
    (h2 : ∀ w, S w → oj.wp P a w (fun a' w' => ∃ S', S' w' ∧ Stab S' ∧ (j ∈ js ∨ ∀ w, S' w → S w) ∧ wpAnyE P md ops Q js fuel (listed.setIfInBounds j true) a' S') Q) : wpAnyE P md ops Q js (fuel + 1) listed a S := by
  have hi : ops[i]? = some oi := by
    have := congrArg (·[0]?) hi'
    simpa using this
  have hj : ops[j]? = some oj := by
    have := congrArg (·[0]?) hj'
    simpa using this
  simp only [beq_iff_eq] at hr
  refine ⟨fun h0 => (by rw [h0] at hr; cases hr), fun k hk w hS => ?_⟩
  rw [hr] at hk
  simp only [List.mem_cons, List.not_mem_nil, or_false] at hk
  rcases hk with rfl | rfl
  · unfold Go.wpOp
    simp only [hi, hwi, if_true]
    exact .inl (h1 w hS)
  · unfold Go.wpOp
    simp only [hj, hwj, if_true]
    exact .inl (h2 w hS)

theorem wpAnyE_done {listed : Array Bool} {a : Act} (hr : ((Region.ready md ops listed).isEmpty) = true) (h : ∀ w, S w → Q .normal a w) :
    ∀ fuel, wpAnyE P md ops Q js fuel listed a S := by
  simp only [List.isEmpty_iff] at hr
  intro fuel
  cases fuel with
  | zero => exact ⟨hr, h⟩
  | succ n => exact ⟨fun _ => h, by rw [hr]; simp⟩

theorem wp_region_E {id : Nat} {a : Act} {w : World} (hm : P.follows .mixedOrders = true) (js : List Nat) {S : World → Prop} (_ : Stab S) (hS : S { w with drawn := w.drawn + 1 })
    (h : wpAnyE P .any ops Q js ops.size (Array.replicate ops.size false) a S) : (Code.region id ops true).wp P Q a w :=
  wp_region_any hm (wpAny_of_E _ _ _ _ _ h hS)

theorem EffB.pure {o : Oper} {v : Value} {a : Act} (hw : Region.wanted o (yielded ops a.tmps) = true) (h : ∀ w, (execOp a.eval o).run P w = .ok (.value v) w) : EffB P ops S o v a :=
  .inl ⟨hw, fun w hS => by unfold effB; rw [h w]; exact ⟨.inr rfl, Below.refl _ _⟩⟩

/-- An operation that its guard passes over. -/
theorem EffB.skip {o : Oper} {a : Act} (hw : Region.wanted o (yielded ops a.tmps) = false) : EffB P ops S o undef a := .inr ⟨hw, rfl⟩

/-- The slot has the value, and there are at most new blocks. -/
def GotB (a : Act) (d : Option Tmp) (v : Value) (w : World) : Act → World → Prop := fun a' w' => a' = a.put d v ∧ Below w.heap.size w w'

theorem EffB.run {o : Oper} {v : Value} {a : Act} (hw : Region.wanted o (yielded ops a.tmps) = true) (hd : (o.dst.all fun d => decide (d < a.tmps.size)) = true)
    (h : ∀ w, S w → o.wp P a w (GotB a o.dst v w) NoQ) : EffB P ops S o v a := by
  have inj : ∀ u, a.put o.dst u = a.put o.dst v → (o.dst = none ∨ u = v) := fun u hu => by
    cases hdst : o.dst with
    | none => exact .inl rfl
    | some d =>
      right
      rw [hdst] at hu
      have h1 : (a.tmps.setIfInBounds d u)[d]? = (a.tmps.setIfInBounds d v)[d]? := by
        have := congrArg Act.tmps hu
        simp only [Act.put] at this
        rw [this]
      have hlt : d < a.tmps.size := by rw [hdst] at hd; simpa using hd
      simpa [hlt] using h1
  refine .inl ⟨hw, fun w hS => ?_⟩
  have h : o.wp P a w (fun a' w' => a' = a.put o.dst v ∧ Below w.heap.size w w') NoQ := h w hS
  unfold effB
  unfold Oper.wp at h
  generalize (execOp a.eval o).run P w = r at *
  cases r with
  | ok n w' =>
    cases n <;> simp only [Oper.upon] at h ⊢
    case value u => exact ⟨inj _ h.1, h.2⟩
    case skip => exact ⟨inj _ h.1, h.2⟩
    case defer d =>
      have h1 := congrArg Act.defers h.1
      have h2 : (a.put o.dst v).defers = a.defers := by cases o.dst <;> rfl
      have h3 : (({ a with defers := d :: a.defers } : Act).put o.dst undef).defers = d :: a.defers := by cases o.dst <;> rfl
      rw [h2, h3] at h1
      exact absurd (congrArg List.length h1) (by simp)
    case enter f args =>
      refine h.mono fun e w'' he => ?_
      cases e with
      | returned u => exact ⟨⟨u, rfl, inj _ he.1⟩, he.2⟩
      | panicked c => exact (he : False).elim
      | outgrown => obtain ⟨_, _, hf⟩ := (he : LetsOut NoQ); exact (hf : False).elim
    case row row args => exact h.mono fun u w'' he => ⟨inj _ he.1, he.2⟩
  | halt x w' => cases x <;> simp only [Oper.upon, NoQ] at h
end
end Go.Proofs.Ytildjnibdappnaa
