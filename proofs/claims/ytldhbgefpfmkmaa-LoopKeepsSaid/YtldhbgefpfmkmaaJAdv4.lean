/- The most that was wanted, by the reference; what is held (layers 14, 15). -/
import Derived.Test.YtldhbgefpfmkmaaJAdv3
namespace Go.Proofs.Ytldhbgefpfmkmaa
open Go.ChangeShapes Go.WideShapes Go.ChangeAt Go.RowKit

theorem Adv.streak_le' (g : Nat → Int) (n : Nat) : Adv.streak g n n 0 ≤ n := Adv.streak_le g n n 0 (by omega)

def Adv.settled (l : List Adv) (m : Int) : Bool := decide (0 < l.length ∧ m ≤ (Adv.streak (Adv.rep l) l.length l.length 0 : Nat))

/-- What is held. -/
def Adv.held (p : Pol) (tick want : Int) (l : List Adv) : Int × Bool :=
  if (Adv.highest l (Sat.clamp (tick - p.ho)) tick).2 = true ∧ want < (Adv.highest l (Sat.clamp (tick - p.ho)) tick).1 then ((Adv.highest l (Sat.clamp (tick - p.ho)) tick).1, true) else (want, false)
theorem Adv.held_spec (p : Pol) (tick want : Int) (l : List Adv) : want ≤ (Adv.held p tick want l).1 ∧ (Adv.held p tick want l).2 = decide (want < (Adv.held p tick want l).1) := by
  unfold Adv.held
  split
  · rename_i h; exact ⟨by simp only; omega, (decide_eq_true h.2).symm⟩
  · exact ⟨by simp only; omega, (decide_eq_false (by simp only; omega)).symm⟩

set_option maxHeartbeats 1000000 in
set_option maxRecDepth 100000 in
theorem steady_of (p : Pol) (hp : p.In) (tick want : Int) (ht : I64 tick) (q : Option Addr) (cap : Nat) (l : List Adv) (hb : l.length ≤ 9223372036854775806) (w : World) (hs : Advs w q l) :
    Calls Try.prog 138 #[.agg #[.int .i64 p.mn, .int .i64 p.mx, .int .i64 p.tg, .int .i64 p.tl, .int .i64 p.wi, .int .i64 p.ho], .int .i64 tick, .int .i64 want, .slice q l.length cap] w fun e w' => e = .returned (.tuple #[.int .i64 (Adv.held p tick want l).1, .bool (Adv.held p tick want l).2]) ∧ Below w.heap.size w w' := by
  have h1 := fun W : World => fun h : Advs W q l => history_highest q cap l tick p.ho ht hp.2.2.2.2.2 (by omega) W h
  have hd : Adv.held p tick want l = if (Adv.highest l (Sat.clamp (tick - p.ho)) tick).2 = true ∧ want < (Adv.highest l (Sat.clamp (tick - p.ho)) tick).1 then ((Adv.highest l (Sat.clamp (tick - p.ho)) tick).1, true) else (want, false) := rfl
  obtain ⟨h, eh⟩ : ∃ h, h = Adv.highest l (Sat.clamp (tick - p.ho)) tick := ⟨_, rfl⟩
  rw [← eh] at h1 hd
  obtain ⟨r, er⟩ : ∃ r, r = Adv.held p tick want l := ⟨_, rfl⟩
  rw [← er] at hd ⊢
  obtain ⟨m, f⟩ := h
  simp only at h1 hd
  have H1 := Lib.hid h1
  have hs1 : Advs (w.alloc (.cells #[.int .i64 p.mn, .int .i64 p.mx, .int .i64 p.tg, .int .i64 p.tl, .int .i64 p.wi, .int .i64 p.ho] 54)) q l := hs.below (below1 _ _)
  have HS := Lib.hid hs1
  obtain ⟨n, hn⟩ : ∃ n, n = l.length := ⟨_, rfl⟩
  rw [← hn] at hb H1 ⊢
  clear hs hn eh er h1 hs1
  cases f with
  | false =>
    rw [if_neg (by simp)] at hd
    have HE := Lib.hid hd
    clear hd
    go_enter Try.func138, Try.ntmps138
    go_wp2_with fail
    (with_reducible refine (H1.out _ HS.out).mono ?_)
    rintro e w1 ⟨rfl, hb1⟩
    have HB := Lib.hid ((below1 w _).trans (hb1.mono (by simp)))
    clear hb1
    go_wp2
    go_ret2
    exact ⟨by rw [HE.out]; rfl, HB.out⟩
  | true =>
    by_cases hm : want < m
    · rw [if_pos ⟨rfl, hm⟩] at hd
      have HE := Lib.hid hd
      clear hd
      go_enter Try.func138, Try.ntmps138
      go_wp2_with fail
      (with_reducible refine (H1.out _ HS.out).mono ?_)
      rintro e w1 ⟨rfl, hb1⟩
      have HB := Lib.hid ((below1 w _).trans (hb1.mono (by simp)))
      clear hb1
      go_wp2
      go_ret2
      exact ⟨by rw [HE.out]; rfl, HB.out⟩
    · rw [if_neg (by simp; omega)] at hd
      have HE := Lib.hid hd
      clear hd
      go_enter Try.func138, Try.ntmps138
      go_wp2_with fail
      (with_reducible refine (H1.out _ HS.out).mono ?_)
      rintro e w1 ⟨rfl, hb1⟩
      have HB := Lib.hid ((below1 w _).trans (hb1.mono (by simp)))
      clear hb1
      go_wp2
      go_ret2
      exact ⟨by rw [HE.out]; rfl, HB.out⟩

end Go.Proofs.Ytldhbgefpfmkmaa
