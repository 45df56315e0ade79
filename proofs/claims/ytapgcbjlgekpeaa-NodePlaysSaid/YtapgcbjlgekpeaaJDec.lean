/- General lemmas of several texts, one after another. -/
import Derived.Test.YtapgcbjlgekpeaaJStat
import Derived.Test.YtapgcbjlgekpeaaJAdv4
import Derived.Test.YtapgcbjlgekpeaaJControl2
import Derived.Test.YtapgcbjlgekpeaaJRef13
import Derived.Test.YtapgcbjlgekpeaaJBase
/- Layer 16: the decision as data; how many there are, the greatest tick, the reason. -/
namespace Go.Proofs.Ytapgcbjlgekpeaa
open Go.ChangeShapes Go.WideShapes Go.ChangeAt Go.RowKit

def Dec.now (p : Pol) (l : List Adv) : Int := if l.length = 0 then p.mn else (l[l.length - 1]?.getD default).repl
def Dec.latest (l : List Samp) : Int := lmax (l.map Samp.tick)
def Dec.why (p : Pol) (held : Bool) (open' now then' : Int) : Int :=
  if held = true then 4 else if p.mx < open' then 6 else if open' < p.mn then 5 else if now < then' then 2 else if then' < now then 3 else 1
def Dec.load (p : Pol) (l : List Samp) : Int := (Stat.of (Samp.vals (Samp.cut (Win.from (Dec.latest l) p.wi) (Dec.latest l) l))).mean
def Dec.wants (p : Pol) (l : List Samp) (past : List Adv) : Int := p.raw (Dec.load p l) (Dec.now p past)
def Dec.held (p : Pol) (l : List Samp) (past : List Adv) : Int × Bool := Adv.held p (Dec.latest l) (Dec.wants p l past) past
def Dec.adv (p : Pol) (l : List Samp) (past : List Adv) : Adv :=
  ⟨Dec.latest l, Dec.load p l, Dec.wants p l past, p.bound (Dec.held p l past).1,
    Dec.why p (Dec.held p l past).2 (p.open' (Dec.load p l) (Dec.now p past)) (Dec.now p past) (p.bound (Dec.held p l past).1)⟩
def Dec.err (p : Pol) (l : List Samp) : Int := if p.ok = true then (if l.length = 0 then 5 else 0) else 7
def Dec.of (p : Pol) (l : List Samp) (past : List Adv) : Adv := if Dec.err p l = 0 then Dec.adv p l past else ⟨0, 0, 0, 0, 0⟩

theorem Dec.now_I64 (p : Pol) (hp : p.In) (l : List Adv) (hl : ∀ a ∈ l, a.In) : I64 (Dec.now p l) := by
  unfold Dec.now
  split
  · exact hp.1
  · rename_i h
    have h2 : l.length - 1 < l.length := by omega
    rw [List.getElem?_eq_getElem h2]
    exact (hl _ (List.getElem_mem h2)).2.2.2.1
theorem Dec.latest_mem (l : List Samp) (h : l.length ≠ 0) : Dec.latest l ∈ l.map Samp.tick := (lmax_spec (by intro e; simp at e; subst e; exact h rfl)).1
theorem Dec.latest_I64 (l : List Samp) (h : l.length ≠ 0) (hin : ∀ a ∈ l, a.In) : I64 (Dec.latest l) := by
  have := Dec.latest_mem l h
  simp only [List.mem_map] at this
  obtain ⟨a, ha, e⟩ := this
  rw [← e]
  exact (hin a ha).1
theorem Wide.up_I64 (n d : Nat) : I64 (Wide.up n d) := by
  unfold Wide.up
  split
  · unfold I64; omega
  · obtain ⟨x, ex⟩ : ∃ x, x = n / d + (if n % d = 0 then 0 else 1) := ⟨_, rfl⟩
    rw [← ex]
    unfold Bits.small I64
    split <;> omega
theorem Stat.mean_I64 (v : List Int) : I64 (Stat.of v).mean := by
  unfold Stat.of
  split
  · show I64 0; unfold I64; omega
  · exact Wide.up_I64 _ _
theorem Dec.load_I64 (p : Pol) (l : List Samp) : I64 (Dec.load p l) := Stat.mean_I64 _

/-- The last one, there. -/
theorem Advs.last {w : World} {q : Option Addr} {l : List Adv} (h : Advs w q l) (h0 : l.length ≠ 0) :
    ∃ b off, q = some ⟨b, off, none⟩ ∧ b < w.heap.size ∧ w.cell? ⟨b, off + (l.length - 1) * 5 + 3, none⟩ = some (.int .i64 (l[l.length - 1]?.getD default).repl) := by
  obtain ⟨b, off, rfl, hb, _, _, _, c, _⟩ := Advs.cells h (l.length - 1) (by omega)
  exact ⟨b, off, rfl, hb, c⟩

theorem Dec.map_get (l : List Samp) (k : Nat) (h : k < l.length) : (l.map Samp.tick)[k]?.getD 0 = (l[k]?.getD default).tick := by
  rw [List.getElem?_map, List.getElem?_eq_getElem h]; rfl

end Go.Proofs.Ytapgcbjlgekpeaa

/- Layer 16: the reason; the mean, by the reference. -/
namespace Go.Proofs.Ytapgcbjlgekpeaa
open Go.ChangeShapes Go.WideShapes Go.ChangeAt Go.RowKit

theorem stat_mean_nil {v : List Int} (h : v.length = 0) : (Stat.of v).mean = 0 := by rw [Stat.of_nil h]
/-- The mean is the least number that, so many times, is no less than the sum. -/
theorem Dec.mean_least (v : List Int) (hv : ∀ n ∈ v, I64 n) : ∃ q : Nat, (Stat.of v).mean = q ∧ q ≤ 9223372036854775807 ∧ ∀ m : Nat, decide (Bits.total v ≤ m * v.length) = decide (q ≤ m) := by
  by_cases h0 : v.length = 0
  · refine ⟨0, by rw [stat_mean_nil h0]; rfl, by omega, fun m => ?_⟩
    have : v = [] := by simpa using h0
    subst this
    simp [Bits.total]
  · obtain ⟨q, hq, hq2, hup, _⟩ := Wide.mean_is v hv (by omega)
    refine ⟨q, by rw [Stat.of_some h0]; exact hq, hq2, fun m => ?_⟩
    unfold Bits.up at hup
    simp only [decide_eq_true_eq] at hup
    obtain ⟨u1, u2⟩ := hup
    by_cases hm : q ≤ m
    · rw [decide_eq_true hm, decide_eq_true]
      exact Nat.le_trans u1 (Nat.mul_le_mul_right _ hm)
    · rw [decide_eq_false hm, decide_eq_false]
      intro h
      rcases u2 with u2 | u2
      · omega
      · have : m * v.length ≤ (q - 1) * v.length := Nat.mul_le_mul_right _ (by omega)
        omega

theorem Bits.cmp_ge (a b : Nat) : decide (0 ≤ Bits.cmp a b) = decide (b ≤ a) := by
  unfold Bits.cmp
  split
  · rw [decide_eq_false (by omega), decide_eq_false (by omega)]
  · split
    · rw [decide_eq_true (by omega), decide_eq_true (by omega)]
    · rw [decide_eq_true (by omega), decide_eq_true (by omega)]

end Go.Proofs.Ytapgcbjlgekpeaa

/- Layer 16: the decision. -/
namespace Go.Proofs.Ytapgcbjlgekpeaa
open Go.ChangeShapes Go.WideShapes Go.ChangeAt Go.RowKit

theorem advSize : (Try.prog.info? 27).map (·.size) = some 5 := by kernel_rfl

theorem Dec.of_bad {p : Pol} {l : List Samp} {past : List Adv} (h : p.ok = false) : Dec.of p l past = ⟨0, 0, 0, 0, 0⟩ ∧ Dec.err p l = 7 := by
  have : Dec.err p l = 7 := by unfold Dec.err; rw [if_neg (by rw [h]; simp)]
  exact ⟨by unfold Dec.of; rw [if_neg (by rw [this]; omega)], this⟩
theorem Dec.of_none {p : Pol} {l : List Samp} {past : List Adv} (h : p.ok = true) (h0 : l.length = 0) : Dec.of p l past = ⟨0, 0, 0, 0, 0⟩ ∧ Dec.err p l = 5 := by
  have : Dec.err p l = 5 := by unfold Dec.err; rw [if_pos h, if_pos h0]
  exact ⟨by unfold Dec.of; rw [if_neg (by rw [this]; omega)], this⟩
theorem Dec.of_some {p : Pol} {l : List Samp} {past : List Adv} (h : p.ok = true) (h0 : l.length ≠ 0) : Dec.of p l past = Dec.adv p l past ∧ Dec.err p l = 0 := by
  have : Dec.err p l = 0 := by unfold Dec.err; rw [if_pos h, if_neg h0]
  exact ⟨by unfold Dec.of; rw [if_pos this], this⟩

theorem Pol.raw_open (p : Pol) (load now : Int) : p.raw load now = p.bound (p.open' load now) := by
  unfold Pol.raw Pol.open'
  split <;> rfl

end Go.Proofs.Ytapgcbjlgekpeaa

/- Layer 16: the decision, by the reference. -/
namespace Go.Proofs.Ytapgcbjlgekpeaa
open Go.ChangeShapes Go.WideShapes Go.ChangeAt Go.RowKit

end Go.Proofs.Ytapgcbjlgekpeaa
