/- Layer 16: the decision as data; how many there are, the greatest tick, the reason. -/
import Derived.Test.YtildjnibdappnaaGreatJStat
import Derived.Test.YtildjnibdappnaaGreatJAdv4
import Derived.Test.YtildjnibdappnaaGreatJControl2
import Derived.Test.YtildjnibdappnaaGreatJRef13
import Derived.Test.YtildjnibdappnaaGreatJBase
namespace Go.Proofs.YtildjnibdappnaaGreat
open Go.ChangeShapes Go.WideShapes Go.ChangeAt Go.RowKit

def Dec.now (p : Pol) (l : List Adv) : Int := if l.length = 0 then p.mn else (l[l.length - 1]?.getD default).repl
def Dec.latest (l : List Samp) : Int := lmax (l.map Samp.tick)
def Dec.why (p : Pol) (held : Bool) (open' now then' : Int) : Int :=
  if held = true then 4 else if p.mx < open' then 6 else if open' < p.mn then 5 else if now < then' then 2 else if then' < now then 3 else 1
def Dec.load (p : Pol) (l : List Samp) : Int := (Stat.of (Samp.vals (Samp.cut (Win.from (Dec.latest l) p.wi) (Dec.latest l) l))).mean
def Dec.wants (p : Pol) (l : List Samp) (past : List Adv) : Int := p.raw (Dec.load p l) (Dec.now p past)
def Dec.held (p : Pol) (l : List Samp) (past : List Adv) : Int × Bool := Adv.held p (Dec.latest l) (Dec.wants p l past) past
def Dec.adv (p : Pol) (l : List Samp) (past : List Adv) : Adv :=
  ⟨Dec.latest l, Dec.load p l, Dec.wants p l past, p.bound (Dec.held p l past).1,
    Dec.why p (Dec.held p l past).2 (p.open' (Dec.load p l) (Dec.now p past)) (Dec.now p past) (p.bound (Dec.held p l past).1)⟩
def Dec.err (p : Pol) (l : List Samp) : Int := if p.ok = true then (if l.length = 0 then 5 else 0) else 7
def Dec.of (p : Pol) (l : List Samp) (past : List Adv) : Adv := if Dec.err p l = 0 then Dec.adv p l past else ⟨0, 0, 0, 0, 0⟩

theorem Dec.now_I64 (p : Pol) (hp : p.In) (l : List Adv) (hl : ∀ a ∈ l, a.In) : I64 (Dec.now p l) := by
  unfold Dec.now
  split
  · exact hp.1
  · rename_i h
    have h2 : l.length - 1 < l.length := by omega
    rw [List.getElem?_eq_getElem h2]
    exact (hl _ (List.getElem_mem h2)).2.2.2.1
theorem Dec.latest_mem (l : List Samp) (h : l.length ≠ 0) : Dec.latest l ∈ l.map Samp.tick := (lmax_spec (by intro e; simp at e; subst e; exact h rfl)).1
theorem Dec.latest_I64 (l : List Samp) (h : l.length ≠ 0) (hin : ∀ a ∈ l, a.In) : I64 (Dec.latest l) := by
  have := Dec.latest_mem l h
  simp only [List.mem_map] at this
  obtain ⟨a, ha, e⟩ := this
  rw [← e]
  exact (hin a ha).1
theorem Wide.up_I64 (n d : Nat) : I64 (Wide.up n d) := by
  unfold Wide.up
  split
  · unfold I64; omega
  · obtain ⟨x, ex⟩ : ∃ x, x = n / d + (if n % d = 0 then 0 else 1) := ⟨_, rfl⟩
    rw [← ex]
    unfold Bits.small I64
    split <;> omega
theorem Stat.mean_I64 (v : List Int) : I64 (Stat.of v).mean := by
  unfold Stat.of
  split
  · show I64 0; unfold I64; omega
  · exact Wide.up_I64 _ _
theorem Dec.load_I64 (p : Pol) (l : List Samp) : I64 (Dec.load p l) := Stat.mean_I64 _

/-- The last one, there. -/
theorem Advs.last {w : World} {q : Option Addr} {l : List Adv} (h : Advs w q l) (h0 : l.length ≠ 0) :
    ∃ b off, q = some ⟨b, off, none⟩ ∧ b < w.heap.size ∧ w.cell? ⟨b, off + (l.length - 1) * 5 + 3, none⟩ = some (.int .i64 (l[l.length - 1]?.getD default).repl) := by
  obtain ⟨b, off, rfl, hb, _, _, _, c, _⟩ := Advs.cells h (l.length - 1) (by omega)
  exact ⟨b, off, rfl, hb, c⟩

set_option maxRecDepth 100000 in
theorem decide_now (p : Pol) (q : Option Addr) (cap : Nat) (l : List Adv) (hb : l.length ≤ 9223372036854775806) (w : World) (hs : Advs w q l) :
    Calls Tryz.prog 73 #[.agg #[.int .i64 p.mn, .int .i64 p.mx, .int .i64 p.tg, .int .i64 p.tl, .int .i64 p.wi, .int .i64 p.ho], .slice q l.length cap] w fun e w' => e = .returned (.int .i64 (Dec.now p l)) ∧ Below w.heap.size w w' := by
  by_cases h0 : l.length = 0
  · have HE : Hid (Dec.now p l = p.mn) := by show _ = _; unfold Dec.now; rw [if_pos h0]
    rw [h0]
    clear hs h0 hb
    go_enter Tryz.func73, Tryz.ntmps73
    go_wp2
    go_ret
    exact ⟨ret_int HE.out.symm, below1 _ _⟩
  · obtain ⟨b, off, rfl, hbw, c⟩ := (hs.below (below1 w (.cells #[.int .i64 p.mn, .int .i64 p.mx, .int .i64 p.tg, .int .i64 p.tl, .int .i64 p.wi, .int .i64 p.ho] 23))).last h0
    have HE : Hid (Dec.now p l = (l[l.length - 1]?.getD default).repl) := by show _ = _; unfold Dec.now; rw [if_neg h0]
    obtain ⟨x, ex⟩ : ∃ x, x = (l[l.length - 1]?.getD default).repl := ⟨_, rfl⟩
    rw [← ex] at c HE
    obtain ⟨n, hn⟩ : ∃ n, l.length = n + 1 := ⟨l.length - 1, by omega⟩
    rw [hn] at hb c ⊢
    rw [show n + 1 - 1 = n by omega] at c
    clear ex hs h0 hn
    go_enter Tryz.func73, Tryz.ntmps73
    go_wp2
    go_ret
    exact ⟨ret_int HE.out.symm, below1 _ _⟩

set_option maxRecDepth 100000 in
theorem ref16_now (p : Pol) (q : Option Addr) (cap : Nat) (l : List Adv) (hb : l.length ≤ 9223372036854775806) (w : World) (hs : Advs w q l) :
    Calls Tryz.prog 56 #[.agg #[.int .i64 p.mn, .int .i64 p.mx, .int .i64 p.tg, .int .i64 p.tl, .int .i64 p.wi, .int .i64 p.ho], .slice q l.length cap] w fun e w' => e = .returned (.int .i64 (Dec.now p l)) ∧ Below w.heap.size w w' := by
  by_cases h0 : l.length = 0
  · have HE : Hid (Dec.now p l = p.mn) := by show _ = _; unfold Dec.now; rw [if_pos h0]
    rw [h0]
    clear hs h0 hb
    go_enter Tryz.func56, Tryz.ntmps56
    go_wp2
    go_ret
    exact ⟨ret_int HE.out.symm, below1 _ _⟩
  · obtain ⟨b, off, rfl, hbw, c⟩ := (hs.below (below1 w (.cells #[.int .i64 p.mn, .int .i64 p.mx, .int .i64 p.tg, .int .i64 p.tl, .int .i64 p.wi, .int .i64 p.ho] 23))).last h0
    have HE : Hid (Dec.now p l = (l[l.length - 1]?.getD default).repl) := by show _ = _; unfold Dec.now; rw [if_neg h0]
    obtain ⟨x, ex⟩ : ∃ x, x = (l[l.length - 1]?.getD default).repl := ⟨_, rfl⟩
    rw [← ex] at c HE
    obtain ⟨n, hn⟩ : ∃ n, l.length = n + 1 := ⟨l.length - 1, by omega⟩
    rw [hn] at hb c ⊢
    rw [show n + 1 - 1 = n by omega] at c
    clear ex hs h0 hn
    go_enter Tryz.func56, Tryz.ntmps56
    go_wp2
    go_ret
    exact ⟨ret_int HE.out.symm, below1 _ _⟩

set_option maxRecDepth 100000 in
theorem ref16_why (p : Pol) (held : Bool) (o now t : Int) (w : World) :
    Calls Tryz.prog 60 #[.agg #[.int .i64 p.mn, .int .i64 p.mx, .int .i64 p.tg, .int .i64 p.tl, .int .i64 p.wi, .int .i64 p.ho], .bool held, .int .i64 o, .int .i64 now, .int .i64 t] w fun e w' => e = .returned (.int .i64 (Dec.why p held o now t)) ∧ Below w.heap.size w w' := by
  have hd : Dec.why p held o now t = if held = true then 4 else if p.mx < o then 6 else if o < p.mn then 5 else if now < t then 2 else if t < now then 3 else 1 := rfl
  cases held with
  | true =>
    rw [if_pos rfl] at hd
    have HE := Lib.hid hd
    clear hd
    go_enter Tryz.func60, Tryz.ntmps60
    go_wp2
    go_ret
    exact ⟨ret_int HE.out.symm, below1 _ _⟩
  | false =>
    rw [if_neg (by simp)] at hd
    have HE := Lib.hid hd
    clear hd
    by_cases t1 : p.mx < o
    · have HF := Lib.hid (HE.out.trans (if_pos t1))
      go_enter Tryz.func60, Tryz.ntmps60
      go_wp2
      go_ret
      exact ⟨ret_int HF.out.symm, below1 _ _⟩
    have HE1 := Lib.hid (HE.out.trans (if_neg t1))
    by_cases t2 : o < p.mn
    · have HF := Lib.hid (HE1.out.trans (if_pos t2))
      go_enter Tryz.func60, Tryz.ntmps60
      go_wp2
      go_ret
      exact ⟨ret_int HF.out.symm, below1 _ _⟩
    have HE2 := Lib.hid (HE1.out.trans (if_neg t2))
    by_cases t3 : now < t
    · have HF := Lib.hid (HE2.out.trans (if_pos t3))
      go_enter Tryz.func60, Tryz.ntmps60
      go_wp2
      go_ret
      exact ⟨ret_int HF.out.symm, below1 _ _⟩
    have HE3 := Lib.hid (HE2.out.trans (if_neg t3))
    by_cases t4 : t < now
    · have HF := Lib.hid (HE3.out.trans (if_pos t4))
      go_enter Tryz.func60, Tryz.ntmps60
      go_wp2
      go_ret
      exact ⟨ret_int HF.out.symm, below1 _ _⟩
    have HF := Lib.hid (HE3.out.trans (if_neg t4))
    go_enter Tryz.func60, Tryz.ntmps60
    go_wp2
    go_ret
    exact ⟨ret_int HF.out.symm, below1 _ _⟩

theorem Dec.map_get (l : List Samp) (k : Nat) (h : k < l.length) : (l.map Samp.tick)[k]?.getD 0 = (l[k]?.getD default).tick := by
  rw [List.getElem?_map, List.getElem?_eq_getElem h]; rfl

set_option maxHeartbeats 1000000 in
set_option maxRecDepth 100000 in
theorem decide_latest (p : Option Addr) (cap : Nat) (l : List Samp) (h0 : l.length ≠ 0) (hb : l.length ≤ 100000) (w : World) (hs : Samps w p l) :
    Calls Tryz.prog 74 #[.slice p l.length cap] w fun e w' => e = .returned (.int .i64 (Dec.latest l)) ∧ Below w.heap.size w w' := by
  have HM : Hid (((l.map Samp.tick).take l.length).foldl max ((l.map Samp.tick)[0]?.getD 0) = Dec.latest l) := by
    show _ = _; rw [List.take_of_length_le (by simp)]; rfl
  have hs0 := hs.cells 0 (by omega)
  rw [← Dec.map_get l 0 (by omega)] at hs0
  obtain ⟨b0, off0, rfl, hbw, c0, _⟩ := hs0
  rw [Nat.zero_mul, Nat.add_zero] at c0
  have HS := Lib.hid hs
  have HG := Lib.hid (fun k h => foldl_next' max ((l.map Samp.tick)[0]?.getD 0) 0 (l.map Samp.tick) k h)
  have HP := Lib.hid (Dec.map_get l)
  obtain ⟨v, ev⟩ : ∃ v, v = l.map Samp.tick := ⟨_, rfl⟩
  have HVL : Hid (v.length = l.length) := by show _ = _; rw [ev]; simp
  rw [← ev] at HM HG HP c0
  obtain ⟨n, hn⟩ : ∃ n, n = l.length := ⟨_, rfl⟩
  have HN := Lib.hid hn
  rw [← hn] at h0 hb HM HVL ⊢
  obtain ⟨r, er⟩ : ∃ r, r = Dec.latest l := ⟨_, rfl⟩
  rw [← er] at HM ⊢
  obtain ⟨a0, e0⟩ : ∃ a, a = v[0]?.getD 0 := ⟨_, rfl⟩
  rw [← e0] at HM HG c0
  have d0 : (n == 0) = false := beq_eq_false_iff_ne.2 h0
  clear hs hn er ev e0
  have hn1 : 1 ≤ n := by omega
  go_enter Tryz.func74, Tryz.ntmps74
  go_wp2
  go_loopw [3, 12] (fun m i wr => ∃ k : Nat, k ≤ n ∧ i = .int .i64 k ∧ m = .int .i64 ((v.take k).foldl max a0) ∧ Below w.heap.size w wr) (fun _ i _ => n - (intOf i).toNat)
  case atStart => exact ⟨0, by omega, rfl, rfl, Below.refl _ _⟩
  case round =>
    obtain ⟨k, hk, rfl, rfl, hB⟩ := hrel
    by_cases hlt : k < n
    · have hkl : k < l.length := by have := HN.out; omega
      obtain ⟨b, off, e, hbw2, c1, c2⟩ := HS.out.cells k hkl
      simp at e
      obtain ⟨rfl, rfl⟩ := e
      rw [← hB.cell (p := ⟨_, _, none⟩) hbw] at c1 c2
      have hnx := HG.out k (by have := HVL.out; omega)
      rw [HP.out k hkl] at hnx
      obtain ⟨x, ex⟩ : ∃ x, x = (l[k]?.getD default).tick := ⟨_, rfl⟩
      obtain ⟨y, ey⟩ : ∃ x, x = (l[k]?.getD default).val := ⟨_, rfl⟩
      rw [← ex] at c1 hnx
      rw [← ey] at c2
      obtain ⟨m, em⟩ : ∃ m, m = (v.take k).foldl max a0 := ⟨_, rfl⟩
      rw [← em] at hnx ⊢
      have HB := Lib.hid hB
      clear ex ey em hB hkl c0
      by_cases hmx : m < x
      · rw [show max m x = x by omega] at hnx
        have HX := Lib.hid hnx
        clear hnx
        go_wp2
        exact ⟨⟨k + 1, by omega, by go_num, by rw [HX.out], HB.out.alloc HB.out.size _⟩, by simp [intOf]; omega⟩
      · rw [show max m x = m by omega] at hnx
        have HX := Lib.hid hnx
        clear hnx
        go_wp2
        exact ⟨⟨k + 1, by omega, by go_num, by rw [HX.out], HB.out.alloc HB.out.size _⟩, by simp [intOf]; omega⟩
    · obtain rfl : k = n := by omega
      rw [HM.out]
      go_wp2
      go_ret
      exact ⟨rfl, hB⟩

set_option maxHeartbeats 1000000 in
set_option maxRecDepth 100000 in
theorem ref16_latest (p : Option Addr) (cap : Nat) (l : List Samp) (h0 : l.length ≠ 0) (hb : l.length ≤ 100000) (w : World) (hs : Samps w p l) :
    Calls Tryz.prog 52 #[.slice p l.length cap] w fun e w' => e = .returned (.int .i64 (Dec.latest l)) ∧ Below w.heap.size w w' := by
  have HM : Hid (((l.map Samp.tick).take l.length).foldl max ((l.map Samp.tick)[0]?.getD 0) = Dec.latest l) := by
    show _ = _; rw [List.take_of_length_le (by simp)]; rfl
  have hs0 := hs.cells 0 (by omega)
  rw [← Dec.map_get l 0 (by omega)] at hs0
  obtain ⟨b0, off0, rfl, hbw, c0, _⟩ := hs0
  rw [Nat.zero_mul, Nat.add_zero] at c0
  have HS := Lib.hid hs
  have HG := Lib.hid (fun k h => foldl_next' max ((l.map Samp.tick)[0]?.getD 0) 0 (l.map Samp.tick) k h)
  have HP := Lib.hid (Dec.map_get l)
  obtain ⟨v, ev⟩ : ∃ v, v = l.map Samp.tick := ⟨_, rfl⟩
  have HVL : Hid (v.length = l.length) := by show _ = _; rw [ev]; simp
  rw [← ev] at HM HG HP c0
  obtain ⟨n, hn⟩ : ∃ n, n = l.length := ⟨_, rfl⟩
  have HN := Lib.hid hn
  rw [← hn] at h0 hb HM HVL ⊢
  obtain ⟨r, er⟩ : ∃ r, r = Dec.latest l := ⟨_, rfl⟩
  rw [← er] at HM ⊢
  obtain ⟨a0, e0⟩ : ∃ a, a = v[0]?.getD 0 := ⟨_, rfl⟩
  rw [← e0] at HM HG c0
  have d0 : (n == 0) = false := beq_eq_false_iff_ne.2 h0
  clear hs hn er ev e0
  have hn1 : 1 ≤ n := by omega
  go_enter Tryz.func52, Tryz.ntmps52
  go_wp2
  go_loop [3, 4] (fun m i => ∃ k : Nat, k ≤ n ∧ i = .int .i64 k ∧ m = .int .i64 ((v.take k).foldl max a0)) (fun _ i => n - (intOf i).toNat)
  case atStart => exact ⟨0, by omega, rfl, rfl⟩
  case round =>
    obtain ⟨k, hk, rfl, rfl⟩ := hrel
    by_cases hlt : k < n
    · have hkl : k < l.length := by have := HN.out; omega
      obtain ⟨b, off, e, hbw2, c1, c2⟩ := HS.out.cells k hkl
      simp at e
      obtain ⟨rfl, rfl⟩ := e
      have hnx := HG.out k (by have := HVL.out; omega)
      rw [HP.out k hkl] at hnx
      obtain ⟨x, ex⟩ : ∃ x, x = (l[k]?.getD default).tick := ⟨_, rfl⟩
      rw [← ex] at c1 hnx
      obtain ⟨m, em⟩ : ∃ m, m = (v.take k).foldl max a0 := ⟨_, rfl⟩
      rw [← em] at hnx ⊢
      clear ex em hkl c0 c2
      by_cases hmx : m < x
      · rw [show max m x = x by omega] at hnx
        have HX := Lib.hid hnx
        clear hnx
        go_wp2
        exact ⟨⟨k + 1, by omega, by go_num, by rw [HX.out]⟩, by simp [intOf]; omega⟩
      · rw [show max m x = m by omega] at hnx
        have HX := Lib.hid hnx
        clear hnx
        go_wp2
        exact ⟨⟨k + 1, by omega, by go_num, by rw [HX.out]⟩, by simp [intOf]; omega⟩
    · obtain rfl : k = n := by omega
      rw [HM.out]
      go_wp2
      go_ret
      exact ⟨rfl, Below.refl _ _⟩
end Go.Proofs.YtildjnibdappnaaGreat
