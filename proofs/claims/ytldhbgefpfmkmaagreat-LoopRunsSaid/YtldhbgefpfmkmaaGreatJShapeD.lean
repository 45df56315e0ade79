/- Layer 54: shapes as data: a shape is kept as an Adv (tick = Kind, load = Low, want = High, repl = Period, why = Phase). -/
import Derived.Test.YtldhbgefpfmkmaaGreatJBase
namespace Go.Proofs.YtldhbgefpfmkmaaGreat
open Go.ChangeShapes Go.WideShapes Go.ChangeAt Go.RowKit

def Shp.code (s : Adv) : Int := if s.tick < 1 ∨ 5 < s.tick then 14 else if s.load < 0 ∨ s.want < s.load then 4 else if s.repl < 1 ∨ 2147483648 < s.repl then 1 else 0
def Shp.spot (s : Adv) (t : Int) : Int := (t % s.repl + s.why % s.repl) % s.repl
def Shp.up (s : Adv) (k : Int) : Int := s.load + k * (s.want - s.load) / s.repl
def Shp.val (s : Adv) (p : Int) : Int :=
  if s.tick = 2 then Shp.up s p
  else if s.tick = 5 then Shp.up s (2 * min p (s.repl - p))
  else if s.tick = 3 then (if s.repl ≤ 2 * p then s.want else s.load)
  else if s.tick = 4 then (if p = 0 then s.want else s.load)
  else s.load
def Shp.at (s : Adv) (t : Int) : Int := if Shp.code s = 0 then Shp.val s (Shp.spot s t) else 0
def Shp.sum (l : List Adv) (t : Int) : Int := Sat.sum (l.map fun s => Shp.at s t)

structure Shp.Ok (s : Adv) : Prop where
  k1 : 1 ≤ s.tick
  k5 : s.tick ≤ 5
  low : 0 ≤ s.load
  high : s.load ≤ s.want
  p1 : 1 ≤ s.repl
  p2 : s.repl ≤ 2147483648
theorem Shp.ok_of {s : Adv} (h : Shp.code s = 0) : Shp.Ok s := by
  unfold Shp.code at h
  split at h
  · omega
  · split at h
    · omega
    · split at h
      · omega
      · exact ⟨by omega, by omega, by omega, by omega, by omega, by omega⟩
theorem Shp.code_of {s : Adv} (h : Shp.Ok s) : Shp.code s = 0 := by
  obtain ⟨a, b, c, d, e, f⟩ := h
  unfold Shp.code
  rw [if_neg (by omega), if_neg (by omega), if_neg (by omega)]
theorem Shp.spot_in {s : Adv} (h : Shp.Ok s) (t : Int) : 0 ≤ Shp.spot s t ∧ Shp.spot s t < s.repl :=
  ⟨Int.emod_nonneg _ (by have := h.p1; omega), Int.emod_lt_of_pos _ (by have := h.p1; omega)⟩
theorem Shp.quo_in {s : Adv} (h : Shp.Ok s) (k : Int) (h0 : 0 ≤ k) (h1 : k ≤ s.repl) : 0 ≤ k * (s.want - s.load) / s.repl ∧ k * (s.want - s.load) / s.repl ≤ s.want - s.load := by
  obtain ⟨a, b, c, d, e, f⟩ := h
  refine ⟨Int.ediv_nonneg (Int.mul_nonneg h0 (by omega)) (by omega), ?_⟩
  have h2 : k * (s.want - s.load) ≤ s.repl * (s.want - s.load) := Int.mul_le_mul_of_nonneg_right h1 (by omega)
  have h3 := Int.ediv_le_ediv (show 0 < s.repl by omega) h2
  rwa [Int.mul_ediv_cancel_left _ (show s.repl ≠ 0 by omega)] at h3
theorem Shp.val_in {s : Adv} (h : Shp.Ok s) (p : Int) (h0 : 0 ≤ p) (h1 : p < s.repl) : s.load ≤ Shp.val s p ∧ Shp.val s p ≤ s.want := by
  have hh := h.high
  have hp1 := h.p1
  unfold Shp.val Shp.up
  repeat' split
  · have := Shp.quo_in h p h0 (by omega); omega
  · have := Shp.quo_in h (2 * min p (s.repl - p)) (by omega) (by omega); omega
  all_goals omega
theorem Shp.at_in {s : Adv} (h : Shp.code s = 0) (t : Int) : s.load ≤ Shp.at s t ∧ Shp.at s t ≤ s.want := by
  unfold Shp.at
  rw [if_pos h]
  have ho := Shp.ok_of h
  exact Shp.val_in ho _ (Shp.spot_in ho t).1 (Shp.spot_in ho t).2
theorem Shp.at_pos (s : Adv) (t : Int) : 0 ≤ Shp.at s t := by
  by_cases h : Shp.code s = 0
  · have := (Shp.at_in h t).1; have := (Shp.ok_of h).low; omega
  · unfold Shp.at; rw [if_neg h]; omega
theorem Shp.at_I64 {s : Adv} (hs : s.In) (t : Int) : I64 (Shp.at s t) := by
  by_cases h : Shp.code s = 0
  · have h1 := Shp.at_in h t
    have h2 := (Shp.ok_of h).low
    have h3 := hs.2.2.1
    unfold I64 at h3 ⊢
    omega
  · unfold Shp.at; rw [if_neg h]; unfold I64; omega
end Go.Proofs.YtldhbgefpfmkmaaGreat
