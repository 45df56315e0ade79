/- A region that draws its order, whose operations each yield ONE value, and keep one condition on the world, whatever the order; one operation, at the end, may turn that condition into another one. -/
import Derived.Test.YtildjnibdappnaaBase
import Derived.Orders
import Derived.Lib.Hide
import Derived.Deep.Draws
namespace Go.Proofs.Ytildjnibdappnaa
open Go.ChangeShapes Go.WideShapes Go.ChangeAt Go.RowKit

/-- How a frame of written-out slots is laid and read. -/
theorem act_norm : (∀ (a : Act) (d : Tmp) (v : Value), a.put (some d) v = ⟨a.tmps.setIfInBounds d v, a.defers⟩) ∧ (∀ (a : Act) (v : Value), a.put none v = a) ∧
    (∀ (a : Act) (i : Tmp), a.eval (.tmp i) = a.tmps.getD i undef) ∧ (∀ (a : Act) (v : Value), a.eval (.const v) = v) ∧
    (∀ (xs : Array Value) (i : Nat) (v : Value), xs.getD i v = xs[i]?.getD v) ∧ (∀ (l : List Value) (i : Nat), l.toArray[i]? = l[i]?) ∧
    (∀ (x : Value) (l : List Value) (i : Nat), (x :: l)[i + 1]? = l[i]?) ∧ (∀ (x : Value) (l : List Value), (x :: l)[0]? = some x) ∧ (∀ x y : Value, (some x).getD y = x) ∧
    (∀ (l : List Value) (i : Nat) (v : Value), l.toArray.setIfInBounds i v = (l.set i v).toArray) ∧
    (∀ (x : Value) (l : List Value) (i : Nat) (v : Value), (x :: l).set (i + 1) v = x :: l.set i v) ∧ (∀ (x : Value) (l : List Value) (v : Value), (x :: l).set 0 v = v :: l) := by
  refine ⟨fun _ _ _ => rfl, fun _ _ => rfl, fun _ _ => rfl, fun _ _ => rfl, fun _ _ _ => Array.getD_eq_getD_getElem? .., fun _ _ => by simp, fun _ _ _ => rfl, fun _ _ => rfl, fun _ _ => rfl, fun _ _ _ => by simp, fun _ _ _ _ => rfl, fun _ _ _ => rfl⟩

theorem below_drew {B : Nat} {w0 w : World} (h : Below B w0 w) : Below B w0 { w with drawn := w.drawn + 1 } := ⟨h.os, h.tape, h.output, h.size, h.block⟩

section
variable {P : Program} {ops : Array Oper} {Q : Exit → Act → World → Prop} {md : Region.Mode} {S S' : World → Prop} {St : Nat → World → Prop} {js : List Nat}

/-- Nothing but a normal end. -/
def NoQ : Exit → Act → World → Prop := fun _ _ _ => False

/-- From a world that meets S the operation yields v and leaves a world that meets S'. -/
def effD (P : Program) (o : Oper) (ρ : Operand → Value) (S' : World → Prop) (v : Value) (w : World) : Prop :=
  match (execOp ρ o).run P w with
  | .ok (.value u) w' => (o.dst = none ∨ u = v) ∧ S' w'
  | .ok .skip w' => (o.dst = none ∨ undef = v) ∧ S' w'
  | .ok (.enter f args) w' => Calls P f args w' fun e w'' => (∃ u, e = .returned u ∧ (o.dst = none ∨ u = v)) ∧ S' w''
  | .ok (.row row args) w' => Rows P row args w' fun u w'' => (o.dst = none ∨ u = v) ∧ S' w''
  | _ => False

def EffD (P : Program) (ops : Array Oper) (S S' : World → Prop) (o : Oper) (v : Value) (a : Act) : Prop :=
  (Region.wanted o (yielded ops a.tmps) = true ∧ ∀ w, S w → effD P o a.eval S' v w) ∨ (Region.wanted o (yielded ops a.tmps) = false ∧ v = undef ∧ ∀ w, S w → S' w)

theorem EffD.of_same {o : Oper} {v : Value} {a a' : Act} (hy : EffD P ops S S' o v a) (he : execOp a'.eval o = execOp a.eval o)
    (hw : Region.wanted o (yielded ops a'.tmps) = Region.wanted o (yielded ops a.tmps)) : EffD P ops S S' o v a' := by
  unfold EffD effD at *
  rw [he, hw]
  exact hy

theorem put_of {a : Act} {d : Option Tmp} {u v : Value} (h : d = none ∨ u = v) : a.put d u = a.put d v := by
  rcases h with rfl | rfl <;> rfl

theorem EffD.wpOp {i : Nat} {o : Oper} {v : Value} {a : Act} (hi : ops[i]? = some o) (hy : EffD P ops S S' o v a)
    {K : Act → World → Prop} {w : World} (hS : S w) (h : ∀ w', S' w' → K (a.put o.dst v) w') : wpOp P ops Q i K a w := by
  unfold Go.wpOp
  simp only [hi]
  rcases hy with ⟨hw, hv⟩ | ⟨hw, rfl, hk⟩
  · simp only [hw, if_true, Oper.wp]
    left
    have hv := hv w hS
    unfold effD at hv
    generalize (execOp a.eval o).run P w = r at *
    cases r with
    | ok n w' =>
      cases n <;> simp only [Oper.upon] at hv ⊢
      case value u => rw [put_of hv.1]; exact h _ hv.2
      case skip => rw [put_of hv.1]; exact h _ hv.2
      case enter f args =>
        refine hv.mono fun e w'' ⟨⟨u, he, hu⟩, hS'⟩ => ?_
        subst he
        show K (a.put o.dst u) w''
        rw [put_of hu]
        exact h _ hS'
      case row row args => exact hv.mono fun u w'' ⟨hu, hS'⟩ => by rw [put_of hu]; exact h _ hS'
    | halt x w' => exact hv.elim
  · simp only [hw, Bool.false_eq_true, if_false]; exact h _ (hk _ hS)

/-- How many of the operations js have come up. -/
def cnt (js : List Nat) (listed : Array Bool) : Nat := (js.filter fun j => listed.getD j false).length

/-- The condition as it stands: behind each of the operations js another one. -/
def Stood (St : Nat → World → Prop) (js : List Nat) (listed : Array Bool) : World → Prop := St (cnt js listed)

/-- Two conditions, one behind the other; three. -/
def st2 (S0 S1 : World → Prop) : Nat → World → Prop | 0 => S0 | _ + 1 => S1
def st3 (S0 S1 S2 : World → Prop) : Nat → World → Prop | 0 => S0 | 1 => S1 | _ + 2 => S2

/-- Whatever order is picked: each operation yields its value, and the condition holds at each step. -/
def wpAnyD (P : Program) (md : Region.Mode) (ops : Array Oper) (Q : Exit → Act → World → Prop) (St : Nat → World → Prop) (js : List Nat) : Nat → Array Bool → Act → Prop
  | 0, listed, a => Region.ready md ops listed = [] ∧ ∀ w, Stood St js listed w → Q .normal a w
  | fuel + 1, listed, a =>
    (Region.ready md ops listed = [] → ∀ w, Stood St js listed w → Q .normal a w) ∧
    ∀ i ∈ Region.ready md ops listed, ∃ o v, ops[i]? = some o ∧ EffD P ops (Stood St js listed) (Stood St js (listed.setIfInBounds i true)) o v a ∧
      wpAnyD P md ops Q St js fuel (listed.setIfInBounds i true) (a.put o.dst v)

theorem wpAny_of_D : ∀ (fuel : Nat) (listed : Array Bool) (a : Act) (w : World), wpAnyD P md ops Q St js fuel listed a → Stood St js listed w → wpAny P md ops Q fuel listed a w
  | 0, _, _, w, h, hS => ⟨h.1, h.2 w hS⟩
  | fuel + 1, _, _, w, h, hS => ⟨fun hr => h.1 hr w hS, fun i hi => by
    obtain ⟨o, v, ho, he, hk⟩ := h.2 i hi
    exact he.wpOp ho hS fun w' hS' => wpAny_of_D fuel _ _ w' hk hS'⟩

/-- Whether j waits for i, by some steps. -/
def reachB (md : Region.Mode) (ops : Array Oper) : Nat → Nat → Nat → Bool
  | 0, _, _ => false
  | fuel + 1, j, i => match ops[j]? with
    | some o => o.after.any fun e => Region.binds md e && (e.on == i || reachB md ops fuel e.on i)
    | none => false

/-- What has come up came up behind all that it waits for. -/
def Closed (md : Region.Mode) (ops : Array Oper) (listed : Array Bool) : Prop :=
  ∀ k o, ops[k]? = some o → listed.getD k false = true → ∀ e ∈ o.after, Region.binds md e = true → listed.getD e.on false = true
def closedB (md : Region.Mode) (ops : Array Oper) (listed : Array Bool) : Bool :=
  (List.range ops.size).all fun k => match ops[k]? with
    | some o => !listed.getD k false || o.after.all fun e => !Region.binds md e || listed.getD e.on false
    | none => true

theorem closed_of {listed : Array Bool} (h : closedB md ops listed = true) : Closed md ops listed := by
  intro k o ho hk e he hb
  have hlt : k < ops.size := (Array.getElem?_eq_some_iff.1 ho).1
  have := List.all_eq_true.1 h k (by simpa using hlt)
  rw [ho] at this
  simp only [hk, Bool.not_true, Bool.false_or] at this
  have h2 := Array.all_eq_true_iff_forall_mem.1 this e he
  simpa [hb] using h2

theorem closed_set {listed : Array Bool} {j : Nat} (h : Closed md ops listed) (hj : j ∈ Region.ready md ops listed) : Closed md ops (listed.setIfInBounds j true) := by
  intro k o ho hk e he hb
  obtain ⟨_, oj, hoj, hall⟩ := mem_ready.1 hj
  apply getD_set_true
  by_cases hkj : k = j
  · subst hkj
    obtain rfl : o = oj := Option.some.inj (ho.symm.trans hoj)
    exact hall e he hb
  · rw [getD_set_ne false (Ne.symm hkj)] at hk
    exact h k o ho hk e he hb

theorem reach_listed {listed : Array Bool} (h : Closed md ops listed) : ∀ (fuel j i : Nat), (∀ o, ops[j]? = some o → ∀ e ∈ o.after, Region.binds md e = true → listed.getD e.on false = true) →
    reachB md ops fuel j i = true → listed.getD i false = true
  | 0, _, _, _, hr => by simp [reachB] at hr
  | fuel + 1, j, i, hj, hr => by
    unfold reachB at hr
    cases ho : ops[j]? with
    | none => rw [ho] at hr; simp at hr
    | some o =>
      rw [ho] at hr
      simp only [Array.any_eq_true', Bool.and_eq_true, Bool.or_eq_true, beq_iff_eq] at hr
      obtain ⟨e, he, hb, hon⟩ := hr
      have hl := hj o ho e he hb
      rcases hon with hon | hon
      · rw [← hon]; exact hl
      · exact reach_listed h fuel e.on i (fun o' ho' => h e.on o' ho' hl) hon

/-- Whether all of js wait for i. -/
def waitsB (md : Region.Mode) (ops : Array Oper) (js : List Nat) (i : Nat) : Bool := js.all fun j => reachB md ops 3 j i

theorem stood_ne {listed : Array Bool} {i : Nat} (h : i ∉ js) : Stood St js (listed.setIfInBounds i true) = Stood St js listed := by
  unfold Stood cnt
  congr 2
  apply List.filter_congr
  intro j hj
  have hne : i ≠ j := fun e => h (by rw [e]; exact hj)
  rw [getD_set_ne false hne]

theorem wpAnyD_first {i : Nat} {oi : Oper} {v : Value} (hi : ops[i]? = some oi) (hsel : ∀ (j : Nat) (o : Oper) cs b, ops[j]? = some o → o.op ≠ .select cs b) (hij : i ∉ js) :
    ∀ (fuel : Nat) (listed : Array Bool) (a : Act),
      (∀ j oj, ops[j]? = some oj → j ≠ i → listed.getD j true = false → (∀ e ∈ oj.after, Region.binds md e = true → e.on ≠ i) → oi.apart ops oj = true) →
      listed.size = ops.size → Closed md ops listed → i ∈ Region.ready md ops listed →
      EffD P ops (Stood St js listed) (Stood St js listed) oi v a → (waitsB md ops js i = true ∨ ∀ n, EffD P ops (St n) (St n) oi v a) →
      wpAnyD P md ops Q St js fuel (listed.setIfInBounds i true) (a.put oi.dst v) → wpAnyD P md ops Q St js (fuel + 1) listed a := by
  intro fuel
  induction fuel with
  | zero =>
    intro listed a _ _ _ hr hy _ H
    refine ⟨fun h => (by rw [h] at hr; cases hr), fun j hj => ?_⟩
    by_cases hji : j = i
    · subst hji; exact ⟨oi, v, hi, by rw [stood_ne hij]; exact hy, H⟩
    · have := ready_mono hj hji
      rw [H.1] at this
      cases this
  | succ fuel ih =>
    intro listed a hfree hsz hcl hr hy hy1 H
    refine ⟨fun h => (by rw [h] at hr; cases hr), fun j hj => ?_⟩
    by_cases hji : j = i
    · subst hji; exact ⟨oi, v, hi, by rw [stood_ne hij]; exact hy, H⟩
    · obtain ⟨hjun, oj, hoj, hall⟩ := mem_ready.1 hj
      have hiun := (mem_ready.1 hr).1
      have hlt : i < ops.size := (Array.getElem?_eq_some_iff.1 hi).1
      have hnot : ∀ e ∈ oj.after, Region.binds md e = true → e.on ≠ i := fun e he hb heq => by
        have h1 := hall e he hb
        rw [heq] at h1
        have h2 : i < listed.size := by omega
        simp [h2] at hiun h1
        rw [hiun] at h1
        cases h1
      obtain ⟨oj', u, hoj', hyj, hkj⟩ := H.2 j (ready_mono hj hji)
      obtain rfl : oj = oj' := Option.some.inj (hoj.symm.trans hoj')
      obtain ⟨h1, h2, h3⟩ := Oper.apart_spec (hfree j oj hoj hji hjun hnot)
      rw [Array.setIfInBounds_comm _ _ (Ne.symm hji), stood_ne hij, stood_ne hij] at hyj
      have hyj' : EffD P ops (Stood St js listed) (Stood St js (listed.setIfInBounds j true)) oj u a :=
        hyj.of_same (execOp_put oj (fun cs b => hsel j oj cs b hoj) a oi.dst v h1).symm (wanted_put oj a oi.dst v h1).symm
      have keep : ∀ {S S' : World → Prop}, EffD P ops S S' oi v a → EffD P ops S S' oi v (a.put oj.dst u) := fun hy =>
        hy.of_same (execOp_put oi (fun cs b => hsel i oi cs b hi) a oj.dst u h3) (wanted_put oi a oj.dst u h3)
      have hfree' : ∀ k ok, ops[k]? = some ok → k ≠ i → (listed.setIfInBounds j true).getD k true = false →
          (∀ e ∈ ok.after, Region.binds md e = true → e.on ≠ i) → oi.apart ops ok = true := fun k ok hk hki hun hno => by
        refine hfree k ok hk hki ?_ hno
        by_cases hjk : j = k
        · subst hjk; exact hjun
        · rw [getD_set_ne true hjk] at hun; exact hun
      have hy' : EffD P ops (Stood St js (listed.setIfInBounds j true)) (Stood St js (listed.setIfInBounds j true)) oi v a := by
        by_cases hjj : j ∈ js
        · rcases hy1 with hw | hy1
          · exfalso
            unfold waitsB at hw
            have hw := List.all_eq_true.1 hw j hjj
            have hl := reach_listed hcl 3 j i (fun o ho => by
              obtain rfl : o = oj := Option.some.inj (ho.symm.trans hoj)
              exact hall) hw
            have h2 : i < listed.size := by omega
            simp [h2] at hiun hl
            rw [hiun] at hl
            cases hl
          · exact hy1 _
        · rw [stood_ne hjj]; exact hy
      refine ⟨oj, u, hoj, hyj', ih (listed.setIfInBounds j true) _ hfree' (by simpa using hsz) (closed_set hcl hj) (ready_mono hr (Ne.symm hji)) (keep hy') (hy1.imp id fun h n => keep (h n)) ?_⟩
      rw [Array.setIfInBounds_comm _ _ hji, ← Act.put_comm a v u h2]
      exact hkj

/-- Take number i, which is none of js. -/
theorem wpAnyD_take (i n : Nat) {oi : Oper} {tail : List Oper} {v : Value} {fuel : Nat} {listed : Array Bool} {a : Act} (hi' : ops.toList.drop i = oi :: tail)
    (hs : Region.noSelect ops = true) (hf : Region.free md ops listed i = true) (hr : ((Region.ready md ops listed).contains i && listed.size == ops.size && !js.contains i && cnt js listed == n && closedB md ops listed) = true)
    (hy : EffD P ops (St n) (St n) oi v a) (hy1 : waitsB md ops js i = true ∨ ∀ n, EffD P ops (St n) (St n) oi v a)
    (h : wpAnyD P md ops Q St js fuel (listed.setIfInBounds i true) (a.put oi.dst v)) : wpAnyD P md ops Q St js (fuel + 1) listed a := by
  have hi : ops[i]? = some oi := by
    have := congrArg (·[0]?) hi'
    simpa using this
  simp only [Bool.and_eq_true, beq_iff_eq, Bool.not_eq_true'] at hr
  refine wpAnyD_first hi (Region.noSelect_spec hs) (by have := hr.1.1.2; simpa using this) fuel listed a (Region.free_spec hi hf) hr.1.1.1.2 (closed_of hr.2) (by simpa using hr.1.1.1.1) ?_ hy1 h
  unfold Stood
  rw [hr.1.2]
  exact hy

/-- Take one of js, where nobody else may come up. -/
theorem wpAnyD_flag (j n : Nat) {o : Oper} {tail : List Oper} {v : Value} {fuel : Nat} {listed : Array Bool} {a : Act} (hi' : ops.toList.drop j = o :: tail)
    (hr : (Region.ready md ops listed == [j] && cnt js listed == n && cnt js (listed.setIfInBounds j true) == n + 1) = true) (hy : EffD P ops (St n) (St (n + 1)) o v a)
    (h : wpAnyD P md ops Q St js fuel (listed.setIfInBounds j true) (a.put o.dst v)) : wpAnyD P md ops Q St js (fuel + 1) listed a := by
  have hi : ops[j]? = some o := by
    have := congrArg (·[0]?) hi'
    simpa using this
  simp only [Bool.and_eq_true, beq_iff_eq] at hr
  refine ⟨fun h0 => (by rw [h0] at hr; cases hr.1.1), fun i hi2 => ?_⟩
  rw [hr.1.1] at hi2
  obtain rfl : i = j := by simpa using hi2
  refine ⟨o, v, hi, ?_, h⟩
  unfold Stood
  rw [hr.1.2, hr.2]
  exact hy

theorem wpAnyD_done (n : Nat) {listed : Array Bool} {a : Act} (hr : ((Region.ready md ops listed).isEmpty && cnt js listed == n) = true) (h : ∀ w, St n w → Q .normal a w) :
    ∀ fuel, wpAnyD P md ops Q St js fuel listed a := by
  simp only [Bool.and_eq_true, List.isEmpty_iff, beq_iff_eq] at hr
  have h' : ∀ w, Stood St js listed w → Q .normal a w := by
    unfold Stood
    rw [hr.2]
    exact h
  intro fuel
  cases fuel with
  | zero => exact ⟨hr.1, h'⟩
  | succ n => exact ⟨fun _ => h', by rw [hr.1]; simp⟩

theorem wp_region_D {id : Nat} {a : Act} {w : World} (hm : P.follows .mixedOrders = true) (js : List Nat) (St : Nat → World → Prop) (hS : St 0 { w with drawn := w.drawn + 1 })
    (h : wpAnyD P .any ops Q St js ops.size (Array.replicate ops.size false) a) : (Code.region id ops true).wp P Q a w :=
  wp_region_any hm (wpAny_of_D _ _ _ _ h (by
    unfold Stood cnt
    have : (js.filter fun j => (Array.replicate ops.size false).getD j false) = [] := by
      rw [List.filter_eq_nil_iff]
      intro j _
      by_cases hn : j < ops.size <;> simp [hn]
    rw [this]
    exact hS))

/-- An operation that yields its value in whatever world. -/
theorem EffD.pure {o : Oper} {v : Value} {a : Act} (hw : Region.wanted o (yielded ops a.tmps) = true) (h : ∀ w, (execOp a.eval o).run P w = .ok (.value v) w) (hk : ∀ w, S w → S' w) : EffD P ops S S' o v a :=
  .inl ⟨hw, fun w hS => by unfold effD; rw [h w]; exact ⟨.inr rfl, hk _ hS⟩⟩

/-- The slot has the value, and S holds. (A definition, so that the walk lets it be.) -/
def Got (a : Act) (d : Option Tmp) (v : Value) (S : World → Prop) : Act → World → Prop := fun a' w' => a' = a.put d v ∧ S w'

/-- By the walk of that one operation. -/
theorem EffD.run {o : Oper} {v : Value} {a : Act} (hw : Region.wanted o (yielded ops a.tmps) = true) (hd : (o.dst.all fun d => decide (d < a.tmps.size)) = true)
    (h : ∀ w, S w → o.wp P a w (Got a o.dst v S') NoQ) : EffD P ops S S' o v a := by
  have inj : ∀ u, a.put o.dst u = a.put o.dst v → (o.dst = none ∨ u = v) := fun u hu => by
    cases hdst : o.dst with
    | none => exact .inl rfl
    | some d =>
      right
      rw [hdst] at hu
      have h1 : (a.tmps.setIfInBounds d u)[d]? = (a.tmps.setIfInBounds d v)[d]? := by
        have := congrArg Act.tmps hu
        simp only [Act.put] at this
        rw [this]
      have hlt : d < a.tmps.size := by rw [hdst] at hd; simpa using hd
      simpa [hlt] using h1
  refine .inl ⟨hw, fun w hS => ?_⟩
  have h : o.wp P a w (fun a' w' => a' = a.put o.dst v ∧ S' w') NoQ := h w hS
  unfold effD
  unfold Oper.wp at h
  generalize (execOp a.eval o).run P w = r at *
  cases r with
  | ok n w' =>
    cases n <;> simp only [Oper.upon] at h ⊢
    case value u => exact ⟨inj _ h.1, h.2⟩
    case skip => exact ⟨inj _ h.1, h.2⟩
    case defer d =>
      have h1 := congrArg Act.defers h.1
      have h2 : (a.put o.dst v).defers = a.defers := by cases o.dst <;> rfl
      have h3 : (({ a with defers := d :: a.defers } : Act).put o.dst undef).defers = d :: a.defers := by cases o.dst <;> rfl
      rw [h2, h3] at h1
      exact absurd (congrArg List.length h1) (by simp)
    case enter f args =>
      refine h.mono fun e w'' he => ?_
      cases e with
      | returned u => exact ⟨⟨u, rfl, inj _ he.1⟩, he.2⟩
      | panicked c => exact (he : False).elim
      | outgrown => obtain ⟨_, _, hf⟩ := (he : LetsOut NoQ); exact (hf : False).elim
    case row row args => exact h.mono fun u w'' he => ⟨inj _ he.1, he.2⟩
  | halt x w' => cases x <;> simp only [Oper.upon, NoQ] at h
end
end Go.Proofs.Ytildjnibdappnaa
