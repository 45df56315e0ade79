/- The most that was wanted, by the reference; what is held (layers 14, 15). -/
import Derived.Test.YtldhbgefpfmkmaaGreatJAdv3
namespace Go.Proofs.YtldhbgefpfmkmaaGreat
open Go.ChangeShapes Go.WideShapes Go.ChangeAt Go.RowKit

theorem Adv.streak_le' (g : Nat → Int) (n : Nat) : Adv.streak g n n 0 ≤ n := Adv.streak_le g n n 0 (by omega)

def Adv.settled (l : List Adv) (m : Int) : Bool := decide (0 < l.length ∧ m ≤ (Adv.streak (Adv.rep l) l.length l.length 0 : Nat))

set_option maxHeartbeats 2000000 in
set_option maxRecDepth 100000 in
theorem ref14_highest (p : Option Addr) (cap : Nat) (l : List Adv) (tick hold : Int) (ht : I64 tick) (hh : I64 hold) (hb : l.length ≤ 9223372036854775806) (w : World) (hs : Advs w p l) :
    Calls Tryz.prog 72 #[.slice p l.length cap, .int .i64 tick, .int .i64 hold] w fun e w' => e = .returned (.tuple #[.int .i64 (Adv.highest l (Sat.clamp (tick - hold)) tick).1, .bool (Adv.highest l (Sat.clamp (tick - hold)) tick).2]) ∧ Below w.heap.size w w' := by
  have hsub := ref_sub tick hold ht hh
  obtain ⟨lo, hlo⟩ : ∃ lo, lo = Sat.clamp (tick - hold) := ⟨_, rfl⟩
  rw [← hlo] at hsub ⊢
  have HS := Lib.hid hs
  have HG : Hid ((l.take l.length).foldl (Adv.hiStep lo tick) (0, false) = Adv.highest l lo tick) := by show _ = _; rw [List.take_length]; rfl
  obtain ⟨r, hr⟩ : ∃ r, r = Adv.highest l lo tick := ⟨_, rfl⟩
  rw [← hr] at HG ⊢
  obtain ⟨n, hn⟩ : ∃ n, n = l.length := ⟨_, rfl⟩
  rw [← hn] at HG hb ⊢
  have HN := Lib.hid hn
  have HSUB := Lib.hid hsub
  clear hs hr hn hlo ht hh hsub
  go_enter Tryz.func72, Tryz.ntmps72
  go_wp2_with ((with_reducible refine (HSUB.out _).mono ?_); rintro e w1 ⟨rfl, rfl⟩)
  go_loopw [8, 9, 11] (fun m f i wr => ∃ k : Nat, k ≤ n ∧ i = .int .i64 k ∧ m = .int .i64 ((l.take k).foldl (Adv.hiStep lo tick) (0, false)).1 ∧ f = .bool ((l.take k).foldl (Adv.hiStep lo tick) (0, false)).2 ∧ Below w.heap.size w wr) (fun _ _ i _ => n - (intOf i).toNat)
  case atStart => exact ⟨0, by omega, rfl, rfl, rfl, Below.refl _ _⟩
  case round =>
    obtain ⟨k, hk, rfl, rfl, rfl, hB⟩ := hrel
    by_cases hlt : k < n
    · have hkl : k < l.length := by have := HN.out; omega
      obtain ⟨b, off, rfl, hbw, c0, c1, c2, c3, c4⟩ := HS.out.cells k hkl
      have HNX := Lib.hid (foldl_next (Adv.hiStep lo tick) (0, false) default l k hkl)
      rw [← hB.cell (p := ⟨b, _, none⟩) hbw] at c0 c2
      obtain ⟨a, ha⟩ : ∃ a, a = l[k]?.getD default := ⟨_, rfl⟩
      rw [← ha] at c0 c2 HNX
      obtain ⟨s, hs⟩ : ∃ s, s = (l.take k).foldl (Adv.hiStep lo tick) (0, false) := ⟨_, rfl⟩
      rw [← hs] at HNX ⊢
      obtain ⟨m, f⟩ := s
      have HB := Lib.hid hB
      clear ha hs hB hkl c1 c3 c4
      by_cases t1 : a.tick ≤ lo
      · have d1 : decide (lo < a.tick) = false := decide_eq_false (by omega)
        have HE := Lib.hid (Adv.hi_out (s := (m, f)) (hi := tick) (a := a) (.inl t1))
        go_wp2
        exact ⟨⟨k + 1, by omega, by go_num, by rw [HNX.out, HE.out], by rw [HNX.out, HE.out], HB.out⟩, by simp [intOf]; omega⟩
      by_cases t2 : tick < a.tick
      · have d1 : decide (lo < a.tick) = true := decide_eq_true (by omega)
        have d2 : decide (a.tick ≤ tick) = false := decide_eq_false (by omega)
        have HE := Lib.hid (Adv.hi_out (s := (m, f)) (lo := lo) (a := a) (.inr t2))
        go_wp2
        exact ⟨⟨k + 1, by omega, by go_num, by rw [HNX.out, HE.out], by rw [HNX.out, HE.out], HB.out⟩, by simp [intOf]; omega⟩
      have d1 : decide (lo < a.tick) = true := decide_eq_true (by omega)
      have d2 : decide (a.tick ≤ tick) = true := decide_eq_true (by omega)
      have HK := Lib.hid (fun h3 h4 => Adv.hi_keep (lo := lo) (hi := tick) (s := (m, f)) (a := a) (by omega) (by omega) h3 h4)
      have HW := Lib.hid (fun h3 => Adv.hi_new (lo := lo) (hi := tick) (s := (m, f)) (a := a) (by omega) (by omega) h3)
      cases f with
      | false =>
        have HE := Lib.hid (HW.out (.inl rfl))
        clear HK HW
        go_wp2
        exact ⟨⟨k + 1, by omega, by go_num, by rw [HNX.out, HE.out], by rw [HNX.out, HE.out], HB.out⟩, by simp [intOf]; omega⟩
      | true =>
        by_cases t3 : m < a.want
        · have HE := Lib.hid (HW.out (.inr t3))
          have d3 : decide (m < a.want) = true := decide_eq_true t3
          clear HK HW
          go_wp2
          exact ⟨⟨k + 1, by omega, by go_num, by rw [HNX.out, HE.out], by rw [HNX.out, HE.out], HB.out⟩, by simp [intOf]; omega⟩
        · have HE := Lib.hid (HK.out rfl (by simp only; omega))
          have d3 : decide (m < a.want) = false := decide_eq_false t3
          clear HK HW
          go_wp2
          exact ⟨⟨k + 1, by omega, by go_num, by rw [HNX.out, HE.out], by rw [HNX.out, HE.out], HB.out⟩, by simp [intOf]; omega⟩
    · obtain rfl : k = n := by omega
      rw [HG.out]
      go_wp2
      go_ret2
      exact ⟨rfl, hB⟩

/-- What is held. -/
def Adv.held (p : Pol) (tick want : Int) (l : List Adv) : Int × Bool :=
  if (Adv.highest l (Sat.clamp (tick - p.ho)) tick).2 = true ∧ want < (Adv.highest l (Sat.clamp (tick - p.ho)) tick).1 then ((Adv.highest l (Sat.clamp (tick - p.ho)) tick).1, true) else (want, false)
theorem Adv.held_spec (p : Pol) (tick want : Int) (l : List Adv) : want ≤ (Adv.held p tick want l).1 ∧ (Adv.held p tick want l).2 = decide (want < (Adv.held p tick want l).1) := by
  unfold Adv.held
  split
  · rename_i h; exact ⟨by simp only; omega, (decide_eq_true h.2).symm⟩
  · exact ⟨by simp only; omega, (decide_eq_false (by simp only; omega)).symm⟩

set_option maxHeartbeats 1000000 in
set_option maxRecDepth 100000 in
theorem steady_of (p : Pol) (hp : p.In) (tick want : Int) (ht : I64 tick) (q : Option Addr) (cap : Nat) (l : List Adv) (hb : l.length ≤ 9223372036854775806) (w : World) (hs : Advs w q l) :
    Calls Tryz.prog 54 #[.agg #[.int .i64 p.mn, .int .i64 p.mx, .int .i64 p.tg, .int .i64 p.tl, .int .i64 p.wi, .int .i64 p.ho], .int .i64 tick, .int .i64 want, .slice q l.length cap] w fun e w' => e = .returned (.tuple #[.int .i64 (Adv.held p tick want l).1, .bool (Adv.held p tick want l).2]) ∧ Below w.heap.size w w' := by
  have h1 := fun W : World => fun h : Advs W q l => history_highest q cap l tick p.ho ht hp.2.2.2.2.2 (by omega) W h
  have hd : Adv.held p tick want l = if (Adv.highest l (Sat.clamp (tick - p.ho)) tick).2 = true ∧ want < (Adv.highest l (Sat.clamp (tick - p.ho)) tick).1 then ((Adv.highest l (Sat.clamp (tick - p.ho)) tick).1, true) else (want, false) := rfl
  obtain ⟨h, eh⟩ : ∃ h, h = Adv.highest l (Sat.clamp (tick - p.ho)) tick := ⟨_, rfl⟩
  rw [← eh] at h1 hd
  obtain ⟨r, er⟩ : ∃ r, r = Adv.held p tick want l := ⟨_, rfl⟩
  rw [← er] at hd ⊢
  obtain ⟨m, f⟩ := h
  simp only at h1 hd
  have H1 := Lib.hid h1
  have hs1 : Advs (w.alloc (.cells #[.int .i64 p.mn, .int .i64 p.mx, .int .i64 p.tg, .int .i64 p.tl, .int .i64 p.wi, .int .i64 p.ho] 23)) q l := hs.below (below1 _ _)
  have HS := Lib.hid hs1
  obtain ⟨n, hn⟩ : ∃ n, n = l.length := ⟨_, rfl⟩
  rw [← hn] at hb H1 ⊢
  clear hs hn eh er h1 hs1
  cases f with
  | false =>
    rw [if_neg (by simp)] at hd
    have HE := Lib.hid hd
    clear hd
    go_enter Tryz.func54, Tryz.ntmps54
    go_wp2_with fail
    (with_reducible refine (H1.out _ HS.out).mono ?_)
    rintro e w1 ⟨rfl, hb1⟩
    have HB := Lib.hid ((below1 w _).trans (hb1.mono (by simp)))
    clear hb1
    go_wp2
    go_ret2
    exact ⟨by rw [HE.out]; rfl, HB.out⟩
  | true =>
    by_cases hm : want < m
    · rw [if_pos ⟨rfl, hm⟩] at hd
      have HE := Lib.hid hd
      clear hd
      go_enter Tryz.func54, Tryz.ntmps54
      go_wp2_with fail
      (with_reducible refine (H1.out _ HS.out).mono ?_)
      rintro e w1 ⟨rfl, hb1⟩
      have HB := Lib.hid ((below1 w _).trans (hb1.mono (by simp)))
      clear hb1
      go_wp2
      go_ret2
      exact ⟨by rw [HE.out]; rfl, HB.out⟩
    · rw [if_neg (by simp; omega)] at hd
      have HE := Lib.hid hd
      clear hd
      go_enter Tryz.func54, Tryz.ntmps54
      go_wp2_with fail
      (with_reducible refine (H1.out _ HS.out).mono ?_)
      rintro e w1 ⟨rfl, hb1⟩
      have HB := Lib.hid ((below1 w _).trans (hb1.mono (by simp)))
      clear hb1
      go_wp2
      go_ret2
      exact ⟨by rw [HE.out]; rfl, HB.out⟩

set_option maxHeartbeats 1000000 in
set_option maxRecDepth 100000 in
theorem ref15_of (p : Pol) (hp : p.In) (tick want : Int) (ht : I64 tick) (q : Option Addr) (cap : Nat) (l : List Adv) (hb : l.length ≤ 9223372036854775806) (w : World) (hs : Advs w q l) :
    Calls Tryz.prog 43 #[.agg #[.int .i64 p.mn, .int .i64 p.mx, .int .i64 p.tg, .int .i64 p.tl, .int .i64 p.wi, .int .i64 p.ho], .int .i64 tick, .int .i64 want, .slice q l.length cap] w fun e w' => e = .returned (.tuple #[.int .i64 (Adv.held p tick want l).1, .bool (Adv.held p tick want l).2]) ∧ Below w.heap.size w w' := by
  have h1 := fun W : World => fun h : Advs W q l => ref14_highest q cap l tick p.ho ht hp.2.2.2.2.2 (by omega) W h
  have hd : Adv.held p tick want l = if (Adv.highest l (Sat.clamp (tick - p.ho)) tick).2 = true ∧ want < (Adv.highest l (Sat.clamp (tick - p.ho)) tick).1 then ((Adv.highest l (Sat.clamp (tick - p.ho)) tick).1, true) else (want, false) := rfl
  obtain ⟨h, eh⟩ : ∃ h, h = Adv.highest l (Sat.clamp (tick - p.ho)) tick := ⟨_, rfl⟩
  rw [← eh] at h1 hd
  obtain ⟨r, er⟩ : ∃ r, r = Adv.held p tick want l := ⟨_, rfl⟩
  rw [← er] at hd ⊢
  obtain ⟨m, f⟩ := h
  simp only at h1 hd
  have H1 := Lib.hid h1
  have hs1 : Advs (w.alloc (.cells #[.int .i64 p.mn, .int .i64 p.mx, .int .i64 p.tg, .int .i64 p.tl, .int .i64 p.wi, .int .i64 p.ho] 23)) q l := hs.below (below1 _ _)
  have HS := Lib.hid hs1
  obtain ⟨n, hn⟩ : ∃ n, n = l.length := ⟨_, rfl⟩
  rw [← hn] at hb H1 ⊢
  clear hs hn eh er h1 hs1
  cases f with
  | false =>
    rw [if_neg (by simp)] at hd
    have HE := Lib.hid hd
    clear hd
    go_enter Tryz.func43, Tryz.ntmps43
    go_wp2_with fail
    (with_reducible refine (H1.out _ HS.out).mono ?_)
    rintro e w1 ⟨rfl, hb1⟩
    have HB := Lib.hid ((below1 w _).trans (hb1.mono (by simp)))
    clear hb1
    go_wp2
    go_ret2
    exact ⟨by rw [HE.out]; rfl, HB.out⟩
  | true =>
    by_cases hm : want < m
    · rw [if_pos ⟨rfl, hm⟩] at hd
      have HE := Lib.hid hd
      clear hd
      go_enter Tryz.func43, Tryz.ntmps43
      go_wp2_with fail
      (with_reducible refine (H1.out _ HS.out).mono ?_)
      rintro e w1 ⟨rfl, hb1⟩
      have HB := Lib.hid ((below1 w _).trans (hb1.mono (by simp)))
      clear hb1
      go_wp2
      go_ret2
      exact ⟨by rw [HE.out]; rfl, HB.out⟩
    · rw [if_neg (by simp; omega)] at hd
      have HE := Lib.hid hd
      clear hd
      go_enter Tryz.func43, Tryz.ntmps43
      go_wp2_with fail
      (with_reducible refine (H1.out _ HS.out).mono ?_)
      rintro e w1 ⟨rfl, hb1⟩
      have HB := Lib.hid ((below1 w _).trans (hb1.mono (by simp)))
      clear hb1
      go_wp2
      go_ret2
      exact ⟨by rw [HE.out]; rfl, HB.out⟩
end Go.Proofs.YtldhbgefpfmkmaaGreat
