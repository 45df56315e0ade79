/- Contracts of layer 12 on numbers (policy.Check) and of its reference. -/
import Derived.Test.YtapgcbjlgekpeaaJBase
namespace Go.Proofs.Ytapgcbjlgekpeaa
open Go.ChangeShapes Go.WideShapes Go.ChangeAt Go.RowKit

/-- A policy's numbers: min, max, target, tolerance, window, hold. -/
structure Pol where
  mn : Int
  mx : Int
  tg : Int
  tl : Int
  wi : Int
  ho : Int

def Pol.In (p : Pol) : Prop := I64 p.mn ∧ I64 p.mx ∧ I64 p.tg ∧ I64 p.tl ∧ I64 p.wi ∧ I64 p.ho
theorem pol_of_list (l : List Int) (n : l.length = 6) (h : ∀ a ∈ l, (Lit.int .i64 a).wf = true) : ∃ p : Pol, l = [p.mn, p.mx, p.tg, p.tl, p.wi, p.ho] ∧ p.In := by
  match l, n with
  | [a, b, c, d, e, f], _ =>
    exact ⟨⟨a, b, c, d, e, f⟩, rfl, I64.of_wf (h a (by simp)), I64.of_wf (h b (by simp)), I64.of_wf (h c (by simp)), I64.of_wf (h d (by simp)), I64.of_wf (h e (by simp)), I64.of_wf (h f (by simp))⟩

def Pol.Fine (p : Pol) : Prop := 0 ≤ p.mn ∧ 1 ≤ p.mx ∧ p.mx ≤ 1073741824 ∧ p.mn ≤ p.mx ∧ 1 ≤ p.tg ∧ 0 ≤ p.tl ∧ p.tl ≤ 999 ∧ 1 ≤ p.wi ∧ 0 ≤ p.ho
instance (p : Pol) : Decidable p.Fine := by unfold Pol.Fine; infer_instance
def Pol.ok (p : Pol) : Bool := decide p.Fine
theorem Pol.fine {p : Pol} (h : p.ok = true) : p.Fine := of_decide_eq_true h
theorem Pol.notFine {p : Pol} (h : p.ok = false) : ¬ p.Fine := of_decide_eq_false h
theorem Pol.ok_of {p : Pol} (h : p.Fine) : p.ok = true := decide_eq_true h
theorem Pol.no_of {p : Pol} (h : ¬ p.Fine) : p.ok = false := decide_eq_false h

def Pol.err (p : Pol) : Int := if p.ok = true then 0 else 7

theorem polInfo : (Try.prog.info? 25).map (·.size) = some 6 := by kernel_rfl

set_option maxRecDepth 100000 in
theorem policy_check (p : Pol) (w : World) : Calls Try.prog 139 #[.agg #[.int .i64 p.mn, .int .i64 p.mx, .int .i64 p.tg, .int .i64 p.tl, .int .i64 p.wi, .int .i64 p.ho]] w fun e w' => e = .returned (.int .i64 p.err) ∧ Below w.heap.size w w' := by
  have HY : Hid (p.Fine → p.err = 0) := fun h => by unfold Pol.err; rw [if_pos (Pol.ok_of h)]
  have HN : Hid (¬ p.Fine → p.err = 7) := fun h => by unfold Pol.err; rw [if_neg (by simp [Pol.no_of h])]
  obtain ⟨r, hr⟩ : ∃ r, r = p.err := ⟨_, rfl⟩
  rw [← hr] at HY HN ⊢
  clear hr
  go_enter Try.func139, Try.ntmps139
  go_wp2
  all_goals go_ret
  all_goals first
    | exact ⟨ret_int (HN.out (by unfold Pol.Fine; omega)).symm, below1 _ _⟩
    | exact ⟨ret_int (HY.out (by unfold Pol.Fine; omega)).symm, below1 _ _⟩

set_option maxRecDepth 100000 in
theorem ref_polRight (p : Pol) (w : World) : Calls Try.prog 85 #[.agg #[.int .i64 p.mn, .int .i64 p.mx, .int .i64 p.tg, .int .i64 p.tl, .int .i64 p.wi, .int .i64 p.ho]] w fun e w' => e = .returned (.bool p.ok) ∧ Below w.heap.size w w' := by
  have HY : Hid (p.Fine → p.ok = true) := fun h => Pol.ok_of h
  have HN : Hid (¬ p.Fine → p.ok = false) := fun h => Pol.no_of h
  obtain ⟨r, hr⟩ : ∃ r, r = p.ok := ⟨_, rfl⟩
  rw [← hr] at HY HN ⊢
  clear hr
  go_enter Try.func85, Try.ntmps85
  go_wp2
  all_goals go_ret
  all_goals first
    | exact ⟨ret_bool (HN.out (by unfold Pol.Fine; omega)).symm, below1 _ _⟩
    | exact ⟨ret_bool (HY.out (by unfold Pol.Fine; omega)).symm, below1 _ _⟩
    | (refine ⟨ret_bool ?_, below1 _ _⟩
       by_cases hf : p.Fine
       · rw [HY.out hf]; unfold Pol.Fine at hf; simp; omega
       · rw [HN.out hf]; unfold Pol.Fine at hf; simp; omega)
end Go.Proofs.Ytapgcbjlgekpeaa
