/- General lemmas of several texts, one after another. -/
import Derived.Test.YtldhbgefpfmkmaaGreatJStat
import Derived.Test.YtldhbgefpfmkmaaGreatJAdv4
import Derived.Test.YtldhbgefpfmkmaaGreatJControl2
import Derived.Test.YtldhbgefpfmkmaaGreatJRef13
import Derived.Test.YtldhbgefpfmkmaaGreatJBase
/- Layer 16: the decision as data; how many there are, the greatest tick, the reason. -/
namespace Go.Proofs.YtldhbgefpfmkmaaGreat
open Go.ChangeShapes Go.WideShapes Go.ChangeAt Go.RowKit

def Dec.now (p : Pol) (l : List Adv) : Int := if l.length = 0 then p.mn else (l[l.length - 1]?.getD default).repl
def Dec.latest (l : List Samp) : Int := lmax (l.map Samp.tick)
def Dec.why (p : Pol) (held : Bool) (open' now then' : Int) : Int :=
  if held = true then 4 else if p.mx < open' then 6 else if open' < p.mn then 5 else if now < then' then 2 else if then' < now then 3 else 1
def Dec.load (p : Pol) (l : List Samp) : Int := (Stat.of (Samp.vals (Samp.cut (Win.from (Dec.latest l) p.wi) (Dec.latest l) l))).mean
def Dec.wants (p : Pol) (l : List Samp) (past : List Adv) : Int := p.raw (Dec.load p l) (Dec.now p past)
def Dec.held (p : Pol) (l : List Samp) (past : List Adv) : Int × Bool := Adv.held p (Dec.latest l) (Dec.wants p l past) past
def Dec.adv (p : Pol) (l : List Samp) (past : List Adv) : Adv :=
  ⟨Dec.latest l, Dec.load p l, Dec.wants p l past, p.bound (Dec.held p l past).1,
    Dec.why p (Dec.held p l past).2 (p.open' (Dec.load p l) (Dec.now p past)) (Dec.now p past) (p.bound (Dec.held p l past).1)⟩
def Dec.err (p : Pol) (l : List Samp) : Int := if p.ok = true then (if l.length = 0 then 5 else 0) else 7
def Dec.of (p : Pol) (l : List Samp) (past : List Adv) : Adv := if Dec.err p l = 0 then Dec.adv p l past else ⟨0, 0, 0, 0, 0⟩

theorem Dec.now_I64 (p : Pol) (hp : p.In) (l : List Adv) (hl : ∀ a ∈ l, a.In) : I64 (Dec.now p l) := by
  unfold Dec.now
  split
  · exact hp.1
  · rename_i h
    have h2 : l.length - 1 < l.length := by omega
    rw [List.getElem?_eq_getElem h2]
    exact (hl _ (List.getElem_mem h2)).2.2.2.1
theorem Dec.latest_mem (l : List Samp) (h : l.length ≠ 0) : Dec.latest l ∈ l.map Samp.tick := (lmax_spec (by intro e; simp at e; subst e; exact h rfl)).1
theorem Dec.latest_I64 (l : List Samp) (h : l.length ≠ 0) (hin : ∀ a ∈ l, a.In) : I64 (Dec.latest l) := by
  have := Dec.latest_mem l h
  simp only [List.mem_map] at this
  obtain ⟨a, ha, e⟩ := this
  rw [← e]
  exact (hin a ha).1
theorem Wide.up_I64 (n d : Nat) : I64 (Wide.up n d) := by
  unfold Wide.up
  split
  · unfold I64; omega
  · obtain ⟨x, ex⟩ : ∃ x, x = n / d + (if n % d = 0 then 0 else 1) := ⟨_, rfl⟩
    rw [← ex]
    unfold Bits.small I64
    split <;> omega
theorem Stat.mean_I64 (v : List Int) : I64 (Stat.of v).mean := by
  unfold Stat.of
  split
  · show I64 0; unfold I64; omega
  · exact Wide.up_I64 _ _
theorem Dec.load_I64 (p : Pol) (l : List Samp) : I64 (Dec.load p l) := Stat.mean_I64 _

/-- The last one, there. -/
theorem Advs.last {w : World} {q : Option Addr} {l : List Adv} (h : Advs w q l) (h0 : l.length ≠ 0) :
    ∃ b off, q = some ⟨b, off, none⟩ ∧ b < w.heap.size ∧ w.cell? ⟨b, off + (l.length - 1) * 5 + 3, none⟩ = some (.int .i64 (l[l.length - 1]?.getD default).repl) := by
  obtain ⟨b, off, rfl, hb, _, _, _, c, _⟩ := Advs.cells h (l.length - 1) (by omega)
  exact ⟨b, off, rfl, hb, c⟩

set_option maxRecDepth 100000 in
theorem decide_now (p : Pol) (q : Option Addr) (cap : Nat) (l : List Adv) (hb : l.length ≤ 9223372036854775806) (w : World) (hs : Advs w q l) :
    Calls Tryz.prog 50 #[.agg #[.int .i64 p.mn, .int .i64 p.mx, .int .i64 p.tg, .int .i64 p.tl, .int .i64 p.wi, .int .i64 p.ho], .slice q l.length cap] w fun e w' => e = .returned (.int .i64 (Dec.now p l)) ∧ Below w.heap.size w w' := by
  by_cases h0 : l.length = 0
  · have HE : Hid (Dec.now p l = p.mn) := by show _ = _; unfold Dec.now; rw [if_pos h0]
    rw [h0]
    clear hs h0 hb
    go_enter Tryz.func50, Tryz.ntmps50
    go_wp2
    go_ret
    exact ⟨ret_int HE.out.symm, below1 _ _⟩
  · obtain ⟨b, off, rfl, hbw, c⟩ := (hs.below (below1 w (.cells #[.int .i64 p.mn, .int .i64 p.mx, .int .i64 p.tg, .int .i64 p.tl, .int .i64 p.wi, .int .i64 p.ho] 23))).last h0
    have HE : Hid (Dec.now p l = (l[l.length - 1]?.getD default).repl) := by show _ = _; unfold Dec.now; rw [if_neg h0]
    obtain ⟨x, ex⟩ : ∃ x, x = (l[l.length - 1]?.getD default).repl := ⟨_, rfl⟩
    rw [← ex] at c HE
    obtain ⟨n, hn⟩ : ∃ n, l.length = n + 1 := ⟨l.length - 1, by omega⟩
    rw [hn] at hb c ⊢
    rw [show n + 1 - 1 = n by omega] at c
    clear ex hs h0 hn
    go_enter Tryz.func50, Tryz.ntmps50
    go_wp2
    go_ret
    exact ⟨ret_int HE.out.symm, below1 _ _⟩

set_option maxRecDepth 100000 in
theorem ref16_now (p : Pol) (q : Option Addr) (cap : Nat) (l : List Adv) (hb : l.length ≤ 9223372036854775806) (w : World) (hs : Advs w q l) :
    Calls Tryz.prog 40 #[.agg #[.int .i64 p.mn, .int .i64 p.mx, .int .i64 p.tg, .int .i64 p.tl, .int .i64 p.wi, .int .i64 p.ho], .slice q l.length cap] w fun e w' => e = .returned (.int .i64 (Dec.now p l)) ∧ Below w.heap.size w w' := by
  by_cases h0 : l.length = 0
  · have HE : Hid (Dec.now p l = p.mn) := by show _ = _; unfold Dec.now; rw [if_pos h0]
    rw [h0]
    clear hs h0 hb
    go_enter Tryz.func40, Tryz.ntmps40
    go_wp2
    go_ret
    exact ⟨ret_int HE.out.symm, below1 _ _⟩
  · obtain ⟨b, off, rfl, hbw, c⟩ := (hs.below (below1 w (.cells #[.int .i64 p.mn, .int .i64 p.mx, .int .i64 p.tg, .int .i64 p.tl, .int .i64 p.wi, .int .i64 p.ho] 23))).last h0
    have HE : Hid (Dec.now p l = (l[l.length - 1]?.getD default).repl) := by show _ = _; unfold Dec.now; rw [if_neg h0]
    obtain ⟨x, ex⟩ : ∃ x, x = (l[l.length - 1]?.getD default).repl := ⟨_, rfl⟩
    rw [← ex] at c HE
    obtain ⟨n, hn⟩ : ∃ n, l.length = n + 1 := ⟨l.length - 1, by omega⟩
    rw [hn] at hb c ⊢
    rw [show n + 1 - 1 = n by omega] at c
    clear ex hs h0 hn
    go_enter Tryz.func40, Tryz.ntmps40
    go_wp2
    go_ret
    exact ⟨ret_int HE.out.symm, below1 _ _⟩

set_option maxRecDepth 100000 in
theorem ref16_why (p : Pol) (held : Bool) (o now t : Int) (w : World) :
    Calls Tryz.prog 44 #[.agg #[.int .i64 p.mn, .int .i64 p.mx, .int .i64 p.tg, .int .i64 p.tl, .int .i64 p.wi, .int .i64 p.ho], .bool held, .int .i64 o, .int .i64 now, .int .i64 t] w fun e w' => e = .returned (.int .i64 (Dec.why p held o now t)) ∧ Below w.heap.size w w' := by
  have hd : Dec.why p held o now t = if held = true then 4 else if p.mx < o then 6 else if o < p.mn then 5 else if now < t then 2 else if t < now then 3 else 1 := rfl
  cases held with
  | true =>
    rw [if_pos rfl] at hd
    have HE := Lib.hid hd
    clear hd
    go_enter Tryz.func44, Tryz.ntmps44
    go_wp2
    go_ret
    exact ⟨ret_int HE.out.symm, below1 _ _⟩
  | false =>
    rw [if_neg (by simp)] at hd
    have HE := Lib.hid hd
    clear hd
    by_cases t1 : p.mx < o
    · have HF := Lib.hid (HE.out.trans (if_pos t1))
      go_enter Tryz.func44, Tryz.ntmps44
      go_wp2
      go_ret
      exact ⟨ret_int HF.out.symm, below1 _ _⟩
    have HE1 := Lib.hid (HE.out.trans (if_neg t1))
    by_cases t2 : o < p.mn
    · have HF := Lib.hid (HE1.out.trans (if_pos t2))
      go_enter Tryz.func44, Tryz.ntmps44
      go_wp2
      go_ret
      exact ⟨ret_int HF.out.symm, below1 _ _⟩
    have HE2 := Lib.hid (HE1.out.trans (if_neg t2))
    by_cases t3 : now < t
    · have HF := Lib.hid (HE2.out.trans (if_pos t3))
      go_enter Tryz.func44, Tryz.ntmps44
      go_wp2
      go_ret
      exact ⟨ret_int HF.out.symm, below1 _ _⟩
    have HE3 := Lib.hid (HE2.out.trans (if_neg t3))
    by_cases t4 : t < now
    · have HF := Lib.hid (HE3.out.trans (if_pos t4))
      go_enter Tryz.func44, Tryz.ntmps44
      go_wp2
      go_ret
      exact ⟨ret_int HF.out.symm, below1 _ _⟩
    have HF := Lib.hid (HE3.out.trans (if_neg t4))
    go_enter Tryz.func44, Tryz.ntmps44
    go_wp2
    go_ret
    exact ⟨ret_int HF.out.symm, below1 _ _⟩

theorem Dec.map_get (l : List Samp) (k : Nat) (h : k < l.length) : (l.map Samp.tick)[k]?.getD 0 = (l[k]?.getD default).tick := by
  rw [List.getElem?_map, List.getElem?_eq_getElem h]; rfl

set_option maxHeartbeats 1000000 in
set_option maxRecDepth 100000 in
theorem decide_latest (p : Option Addr) (cap : Nat) (l : List Samp) (h0 : l.length ≠ 0) (hb : l.length ≤ 100000) (w : World) (hs : Samps w p l) :
    Calls Tryz.prog 51 #[.slice p l.length cap] w fun e w' => e = .returned (.int .i64 (Dec.latest l)) ∧ Below w.heap.size w w' := by
  have HM : Hid (((l.map Samp.tick).take l.length).foldl max ((l.map Samp.tick)[0]?.getD 0) = Dec.latest l) := by
    show _ = _; rw [List.take_of_length_le (by simp)]; rfl
  have hs0 := hs.cells 0 (by omega)
  rw [← Dec.map_get l 0 (by omega)] at hs0
  obtain ⟨b0, off0, rfl, hbw, c0, _⟩ := hs0
  rw [Nat.zero_mul, Nat.add_zero] at c0
  have HS := Lib.hid hs
  have HG := Lib.hid (fun k h => foldl_next' max ((l.map Samp.tick)[0]?.getD 0) 0 (l.map Samp.tick) k h)
  have HP := Lib.hid (Dec.map_get l)
  obtain ⟨v, ev⟩ : ∃ v, v = l.map Samp.tick := ⟨_, rfl⟩
  have HVL : Hid (v.length = l.length) := by show _ = _; rw [ev]; simp
  rw [← ev] at HM HG HP c0
  obtain ⟨n, hn⟩ : ∃ n, n = l.length := ⟨_, rfl⟩
  have HN := Lib.hid hn
  rw [← hn] at h0 hb HM HVL ⊢
  obtain ⟨r, er⟩ : ∃ r, r = Dec.latest l := ⟨_, rfl⟩
  rw [← er] at HM ⊢
  obtain ⟨a0, e0⟩ : ∃ a, a = v[0]?.getD 0 := ⟨_, rfl⟩
  rw [← e0] at HM HG c0
  have d0 : (n == 0) = false := beq_eq_false_iff_ne.2 h0
  clear hs hn er ev e0
  have hn1 : 1 ≤ n := by omega
  go_enter Tryz.func51, Tryz.ntmps51
  go_wp2
  go_loopw [3, 12] (fun m i wr => ∃ k : Nat, k ≤ n ∧ i = .int .i64 k ∧ m = .int .i64 ((v.take k).foldl max a0) ∧ Below w.heap.size w wr) (fun _ i _ => n - (intOf i).toNat)
  case atStart => exact ⟨0, by omega, rfl, rfl, Below.refl _ _⟩
  case round =>
    obtain ⟨k, hk, rfl, rfl, hB⟩ := hrel
    by_cases hlt : k < n
    · have hkl : k < l.length := by have := HN.out; omega
      obtain ⟨b, off, e, hbw2, c1, c2⟩ := HS.out.cells k hkl
      simp at e
      obtain ⟨rfl, rfl⟩ := e
      rw [← hB.cell (p := ⟨_, _, none⟩) hbw] at c1 c2
      have hnx := HG.out k (by have := HVL.out; omega)
      rw [HP.out k hkl] at hnx
      obtain ⟨x, ex⟩ : ∃ x, x = (l[k]?.getD default).tick := ⟨_, rfl⟩
      obtain ⟨y, ey⟩ : ∃ x, x = (l[k]?.getD default).val := ⟨_, rfl⟩
      rw [← ex] at c1 hnx
      rw [← ey] at c2
      obtain ⟨m, em⟩ : ∃ m, m = (v.take k).foldl max a0 := ⟨_, rfl⟩
      rw [← em] at hnx ⊢
      have HB := Lib.hid hB
      clear ex ey em hB hkl c0
      by_cases hmx : m < x
      · rw [show max m x = x by omega] at hnx
        have HX := Lib.hid hnx
        clear hnx
        go_wp2
        exact ⟨⟨k + 1, by omega, by go_num, by rw [HX.out], HB.out.alloc HB.out.size _⟩, by simp [intOf]; omega⟩
      · rw [show max m x = m by omega] at hnx
        have HX := Lib.hid hnx
        clear hnx
        go_wp2
        exact ⟨⟨k + 1, by omega, by go_num, by rw [HX.out], HB.out.alloc HB.out.size _⟩, by simp [intOf]; omega⟩
    · obtain rfl : k = n := by omega
      rw [HM.out]
      go_wp2
      go_ret
      exact ⟨rfl, hB⟩

set_option maxHeartbeats 1000000 in
set_option maxRecDepth 100000 in
theorem ref16_latest (p : Option Addr) (cap : Nat) (l : List Samp) (h0 : l.length ≠ 0) (hb : l.length ≤ 100000) (w : World) (hs : Samps w p l) :
    Calls Tryz.prog 36 #[.slice p l.length cap] w fun e w' => e = .returned (.int .i64 (Dec.latest l)) ∧ Below w.heap.size w w' := by
  have HM : Hid (((l.map Samp.tick).take l.length).foldl max ((l.map Samp.tick)[0]?.getD 0) = Dec.latest l) := by
    show _ = _; rw [List.take_of_length_le (by simp)]; rfl
  have hs0 := hs.cells 0 (by omega)
  rw [← Dec.map_get l 0 (by omega)] at hs0
  obtain ⟨b0, off0, rfl, hbw, c0, _⟩ := hs0
  rw [Nat.zero_mul, Nat.add_zero] at c0
  have HS := Lib.hid hs
  have HG := Lib.hid (fun k h => foldl_next' max ((l.map Samp.tick)[0]?.getD 0) 0 (l.map Samp.tick) k h)
  have HP := Lib.hid (Dec.map_get l)
  obtain ⟨v, ev⟩ : ∃ v, v = l.map Samp.tick := ⟨_, rfl⟩
  have HVL : Hid (v.length = l.length) := by show _ = _; rw [ev]; simp
  rw [← ev] at HM HG HP c0
  obtain ⟨n, hn⟩ : ∃ n, n = l.length := ⟨_, rfl⟩
  have HN := Lib.hid hn
  rw [← hn] at h0 hb HM HVL ⊢
  obtain ⟨r, er⟩ : ∃ r, r = Dec.latest l := ⟨_, rfl⟩
  rw [← er] at HM ⊢
  obtain ⟨a0, e0⟩ : ∃ a, a = v[0]?.getD 0 := ⟨_, rfl⟩
  rw [← e0] at HM HG c0
  have d0 : (n == 0) = false := beq_eq_false_iff_ne.2 h0
  clear hs hn er ev e0
  have hn1 : 1 ≤ n := by omega
  go_enter Tryz.func36, Tryz.ntmps36
  go_wp2
  go_loop [3, 4] (fun m i => ∃ k : Nat, k ≤ n ∧ i = .int .i64 k ∧ m = .int .i64 ((v.take k).foldl max a0)) (fun _ i => n - (intOf i).toNat)
  case atStart => exact ⟨0, by omega, rfl, rfl⟩
  case round =>
    obtain ⟨k, hk, rfl, rfl⟩ := hrel
    by_cases hlt : k < n
    · have hkl : k < l.length := by have := HN.out; omega
      obtain ⟨b, off, e, hbw2, c1, c2⟩ := HS.out.cells k hkl
      simp at e
      obtain ⟨rfl, rfl⟩ := e
      have hnx := HG.out k (by have := HVL.out; omega)
      rw [HP.out k hkl] at hnx
      obtain ⟨x, ex⟩ : ∃ x, x = (l[k]?.getD default).tick := ⟨_, rfl⟩
      rw [← ex] at c1 hnx
      obtain ⟨m, em⟩ : ∃ m, m = (v.take k).foldl max a0 := ⟨_, rfl⟩
      rw [← em] at hnx ⊢
      clear ex em hkl c0 c2
      by_cases hmx : m < x
      · rw [show max m x = x by omega] at hnx
        have HX := Lib.hid hnx
        clear hnx
        go_wp2
        exact ⟨⟨k + 1, by omega, by go_num, by rw [HX.out]⟩, by simp [intOf]; omega⟩
      · rw [show max m x = m by omega] at hnx
        have HX := Lib.hid hnx
        clear hnx
        go_wp2
        exact ⟨⟨k + 1, by omega, by go_num, by rw [HX.out]⟩, by simp [intOf]; omega⟩
    · obtain rfl : k = n := by omega
      rw [HM.out]
      go_wp2
      go_ret
      exact ⟨rfl, Below.refl _ _⟩
end Go.Proofs.YtldhbgefpfmkmaaGreat

/- Layer 16: the reason; the mean, by the reference. -/
namespace Go.Proofs.YtldhbgefpfmkmaaGreat
open Go.ChangeShapes Go.WideShapes Go.ChangeAt Go.RowKit

theorem stat_mean_nil {v : List Int} (h : v.length = 0) : (Stat.of v).mean = 0 := by rw [Stat.of_nil h]
/-- The mean is the least number that, so many times, is no less than the sum. -/
theorem Dec.mean_least (v : List Int) (hv : ∀ n ∈ v, I64 n) : ∃ q : Nat, (Stat.of v).mean = q ∧ q ≤ 9223372036854775807 ∧ ∀ m : Nat, decide (Bits.total v ≤ m * v.length) = decide (q ≤ m) := by
  by_cases h0 : v.length = 0
  · refine ⟨0, by rw [stat_mean_nil h0]; rfl, by omega, fun m => ?_⟩
    have : v = [] := by simpa using h0
    subst this
    simp [Bits.total]
  · obtain ⟨q, hq, hq2, hup, _⟩ := Wide.mean_is v hv (by omega)
    refine ⟨q, by rw [Stat.of_some h0]; exact hq, hq2, fun m => ?_⟩
    unfold Bits.up at hup
    simp only [decide_eq_true_eq] at hup
    obtain ⟨u1, u2⟩ := hup
    by_cases hm : q ≤ m
    · rw [decide_eq_true hm, decide_eq_true]
      exact Nat.le_trans u1 (Nat.mul_le_mul_right _ hm)
    · rw [decide_eq_false hm, decide_eq_false]
      intro h
      rcases u2 with u2 | u2
      · omega
      · have : m * v.length ≤ (q - 1) * v.length := Nat.mul_le_mul_right _ (by omega)
        omega

theorem Bits.cmp_ge (a b : Nat) : decide (0 ≤ Bits.cmp a b) = decide (b ≤ a) := by
  unfold Bits.cmp
  split
  · rw [decide_eq_false (by omega), decide_eq_false (by omega)]
  · split
    · rw [decide_eq_true (by omega), decide_eq_true (by omega)]
    · rw [decide_eq_true (by omega), decide_eq_true (by omega)]

set_option maxHeartbeats 1000000 in
set_option maxRecDepth 100000 in
theorem ref16_atLeast (p : Option Addr) (cap : Nat) (v : List Int) (hv : ∀ n ∈ v, I64 n) (m : Nat) (hm : m ≤ 9223372036854775807) (hb : v.length ≤ 100000) (w : World) (hs : Ints .i64 w p v) :
    Calls Tryz.prog 67 #[.slice p v.length cap, .int .i64 m] w fun e w' => e = .returned (.bool (decide (Bits.total v ≤ m * v.length))) ∧ Below w.heap.size w w' := by
  by_cases h0 : v.length = 0
  · have : v = [] := by simpa using h0
    subst this
    have HE : Hid (decide (Bits.total [] ≤ m * ([] : List Int).length) = true) := by show _ = _; simp [Bits.total]
    show Calls Tryz.prog 67 #[.slice p 0 cap, .int .i64 m] w _
    clear hs hb hv h0
    go_enter Tryz.func67, Tryz.ntmps67
    go_wp2
    go_ret
    exact ⟨ret_bool HE.out.symm, Below.refl _ _⟩
  · have h1 := fun W : World => fun h : Ints .i64 W p v => ref_total p cap v W h hv (by omega)
    have h2 := ref_numMul m v.length (by omega) (by omega)
    have h3 := ref_numCmp (m * v.length) (Bits.total v) (Bits.mul_lt (by omega) (by omega)) (Bits.total_lt v hv (by omega))
    have hc := Bits.cmp_ge (m * v.length) (Bits.total v)
    obtain ⟨r, er⟩ : ∃ r, r = decide (Bits.total v ≤ m * v.length) := ⟨_, rfl⟩
    rw [← er] at hc ⊢
    obtain ⟨t, et⟩ : ∃ t, t = Bits.total v := ⟨_, rfl⟩
    simp only [← et] at h1
    rw [← et] at h3 hc
    obtain ⟨n, hn⟩ : ∃ n, n = v.length := ⟨_, rfl⟩
    rw [← hn] at h0 hb h2 h3 hc
    simp only [← hn] at h1 ⊢
    obtain ⟨x, ex⟩ : ∃ x, x = m * n := ⟨_, rfl⟩
    rw [← ex] at h2 h3 hc
    obtain ⟨c, ec⟩ : ∃ c, c = Bits.cmp x t := ⟨_, rfl⟩
    rw [← ec] at h3 hc
    have HC := Lib.hid hc
    have H1 := Lib.hid h1
    have H2 := Lib.hid h2
    have HS := Lib.hid hs
    have d0 : ((n : Int) == 0) = false := beq_eq_false_iff_ne.2 (by omega)
    clear er et hn ex ec hs h1 h2 hc hv
    go_enter Tryz.func67, Tryz.ntmps67
    go_wp2_with fail
    (with_reducible refine (H2.out _).mono ?_)
    rintro e w1 ⟨rfl, hb1⟩
    have hst : Stab (fun w' => (Below w.heap.size w w' ∧ w'.heap[w1.heap.size]? = some (.cells (Bits.num x) 130 (0, 0))) ∧ Ints .i64 w' p v) :=
      stab_and (stab_and (stab_below (Nat.le_refl _)) (stab_heap _ _)) (fun _ _ h hb => Sl.below h hb)
    have M1 := Lib.hid (((Mem.start w).call hb1).alloc (.cells (Bits.num x) 130))
    have HS1 : Hid (Ints .i64 (w1.alloc (.cells (Bits.num x) 130)) p v) := HS.out.below M1.out.below
    clear hb1
    go_wp2_with (first | (with_reducible refine wpList_alloc_as rfl _ rfl _ (numZero _) ?_) | ((with_reducible refine wpList_store_rowAs rfl 130 _ _ rfl (w1.heap.size) (Bits.num x) ?_ ?_ 130 (Bits.num 0) 128 ?_ numInfo (Bits.num_size _) (Bits.num_size _) (num_oneCell _) ?_); exact rfl; exact rfl; exact (heap_alloc_at _ _ _ rfl)))
    rw [setRow_alloc_at _ _ _ _ _ rfl]
    refine wp_region_E mixed [] hst ⟨⟨below_drew M1.out.below, M1.out.heap 0 rfl⟩, HS1.out⟩ ?_
    refine wpAnyE_take 0 (v := .agg (Bits.num x)) rfl (by kernel_rfl) (by kernel_rfl) (by kernel_rfl) (fun _ _ _ h => h) hst (EffB.run rfl rfl (fun wd hS => ?_)) (.inl (by kernel_rfl)) ?_
    · exact wp_load_row 130 _ rfl w1.heap.size rfl 130 (Bits.num x) (0, 0) _ hS.1.2 Tryz.underlying130 rfl (by rw [Bits.num_size]; exact numInfo) ⟨rfl, Below.refl _ _⟩
    simp only [act_norm]
    refine wpAnyE_take 1 rfl (by kernel_rfl) (by kernel_rfl) (by kernel_rfl) (fun _ _ _ h => h) hst (EffB.pure rfl (fun _ => rfl)) (.inr (EffB.pure rfl (fun _ => rfl))) ?_
    simp only [act_norm]
    refine wpAnyE_take 2 (v := .agg (Bits.num t)) rfl (by kernel_rfl) (by kernel_rfl) (by kernel_rfl) (fun _ _ _ h => h) hst (EffB.run rfl rfl (fun wd hS => ?_)) (.inl (by kernel_rfl)) ?_
    · (go_wp2_with fail; (with_reducible refine (H1.out wd hS.2).mono ?_); rintro e w'' ⟨rfl, hb⟩; exact ⟨rfl, hb⟩)
    simp only [act_norm]
    refine wpAnyE_take 3 (v := .int .i64 c) rfl (by kernel_rfl) (by kernel_rfl) (by kernel_rfl) (fun _ _ _ h => h) hst (EffB.run rfl rfl (fun wd hS => ?_)) (.inl (by kernel_rfl)) ?_
    · (go_wp2_with fail; (with_reducible refine (h3 wd).mono ?_); rintro e w'' ⟨rfl, hb⟩; exact ⟨rfl, hb⟩)
    simp only [act_norm]
    refine wpAnyE_take 4 (v := .bool (decide (0 ≤ c))) rfl (by kernel_rfl) (by kernel_rfl) (by kernel_rfl) (fun _ _ _ h => h) hst (EffB.run rfl rfl (fun wd hS => ?_)) (.inr (EffB.run rfl rfl (fun wd hS => ?_))) ?_
    · (go_wp2; exact ⟨rfl, Below.refl _ _⟩)
    · (go_wp2; exact ⟨rfl, Below.refl _ _⟩)
    simp only [act_norm]
    refine wpAnyE_take 5 rfl (by kernel_rfl) (by kernel_rfl) (by kernel_rfl) (fun _ _ _ h => h) hst (EffB.pure rfl (fun _ => rfl)) (.inr (EffB.pure rfl (fun _ => rfl))) ?_
    simp only [act_norm]
    refine wpAnyE_done (by kernel_rfl) (fun wd hS => ?_) _
    go_wp2
    go_ret
    exact ⟨ret_bool HC.out, hS.1.1⟩

set_option maxHeartbeats 1000000 in
set_option maxRecDepth 100000 in
theorem ref16_mean (p : Option Addr) (cap : Nat) (l : List Samp) (hin : ∀ a ∈ l, a.In) (hb : l.length ≤ 100000) (w : World) (hs : Samps w p l) :
    Calls Tryz.prog 37 #[.slice p l.length cap] w fun e w' => e = .returned (.int .i64 (Stat.of (Samp.vals l)).mean) ∧ Below w.heap.size w w' := by
  have hvl := Samp.vals_len l
  have hv64 := Samp.vals_I64 l hin
  have h1 := fun W : World => fun h : Samps W p l => ref09_values p cap l hb W h
  obtain ⟨v, ev⟩ : ∃ v, v = Samp.vals l := ⟨_, rfl⟩
  rw [← ev] at hvl hv64 ⊢
  simp only [← ev] at h1
  have h2 := fun (q : Option Addr) (c : Nat) (m : Nat) (hm : m ≤ 9223372036854775807) (W : World) (h : Ints .i64 W q v) => ref16_atLeast q c v hv64 m hm (by omega) W h
  obtain ⟨q, eq, lq, hq⟩ := Dec.mean_least v hv64
  simp only [hq] at h2
  simp only [hvl] at h2
  rw [eq]
  have H1 := Lib.hid (h1 w hs)
  have H2 := Lib.hid h2
  have HVL := Lib.hid hvl
  obtain ⟨n, hn⟩ : ∃ n, n = l.length := ⟨_, rfl⟩
  rw [← hn] at H1 HVL hb ⊢
  simp only [← hn] at H2
  clear h1 h2 hvl hq eq ev hn hs hv64
  go_enter Tryz.func37, Tryz.ntmps37
  go_wp2_with fail
  (with_reducible refine H1.out.mono ?_)
  rintro e w1 ⟨u, rfl, hO, hB⟩
  rw [← HVL.out] at hO
  obtain ⟨p2, c2, rfl, _, hq⟩ := ints_of_owns hO
  rw [HVL.out]
  have HQ := Lib.hid hq
  have HB := Lib.hid hB
  clear hO hB hq
  go_wp2
  go_loopw [4, 5] (fun a b wr => ∃ x y : Nat, a = .int .i64 x ∧ b = .int .i64 y ∧ x ≤ q ∧ q ≤ y ∧ y ≤ 9223372036854775807 ∧ Below w1.heap.size w1 wr) (fun a b _ => (intOf b).toNat - (intOf a).toNat)
  case atStart => exact ⟨0, 9223372036854775807, rfl, rfl, by omega, by omega, by omega, Below.refl _ _⟩
  case round =>
    obtain ⟨x, y, rfl, rfl, hx, hy, hy2, hB⟩ := hrel
    have HBr := Lib.hid hB
    clear hB
    by_cases hlt : x < y
    · obtain ⟨m, em⟩ : ∃ m, m = x + (y - x) / 2 := ⟨_, rfl⟩
      have em2 : ((x : Int) + ((y : Int) - x) / 2) = m := by omega
      have hh := H2.out p2 c2 m (by omega) wr (HQ.out.below HBr.out)
      have HM : Hid (x ≤ m ∧ m < y) := ⟨by omega, by omega⟩
      clear em
      by_cases hqm : q ≤ m
      · rw [decide_eq_true hqm] at hh
        have HH := Lib.hid hh
        clear hh
        go_wp2_with fail
        (with_reducible refine HH.out.mono ?_)
        rintro e w2 ⟨rfl, hb2⟩
        have HB2 := Lib.hid (HBr.out.trans (hb2.mono HBr.out.size))
        clear hb2
        go_wp2
        exact ⟨⟨x, m, rfl, rfl, hx, hqm, by have := HM.out; omega, HB2.out⟩, by have := HM.out; simp [intOf]; omega⟩
      · rw [decide_eq_false hqm] at hh
        have HH := Lib.hid hh
        have hm3 : m < 9223372036854775807 := by omega
        clear hh
        go_wp2_with fail
        (with_reducible refine HH.out.mono ?_)
        rintro e w2 ⟨rfl, hb2⟩
        have HB2 := Lib.hid (HBr.out.trans (hb2.mono HBr.out.size))
        clear hb2
        go_wp2
        exact ⟨⟨m + 1, y, by go_num, rfl, by omega, hy, hy2, HB2.out⟩, by have := HM.out; simp [intOf]; omega⟩
    · obtain rfl : x = q := by omega
      go_wp2
      go_ret
      exact ⟨rfl, HB.out.trans (HBr.out.mono HB.out.size)⟩

set_option maxHeartbeats 1000000 in
set_option maxRecDepth 100000 in
theorem decide_why (p : Pol) (hp : p.In) (a : Adv) (ha : I64 a.load) (now : Int) (held : Bool) (w : World) :
    Calls Tryz.prog 56 #[.agg #[.int .i64 p.mn, .int .i64 p.mx, .int .i64 p.tg, .int .i64 p.tl, .int .i64 p.wi, .int .i64 p.ho], .agg #[.int .i64 a.tick, .int .i64 a.load, .int .i64 a.want, .int .i64 a.repl, .int .i64 a.why], .int .i64 now, .bool held] w fun e w' => e = .returned (.int .i64 (Dec.why p held (p.open' a.load now) now a.repl)) ∧ Below w.heap.size w w' := by
  have hn := control_near p hp a.load now ha
  have hw := control_want p a.load ha
  have hd : ∀ o, Dec.why p held o now a.repl = if held = true then 4 else if p.mx < o then 6 else if o < p.mn then 5 else if now < a.repl then 2 else if a.repl < now then 3 else 1 := fun _ => rfl
  have ho : p.open' a.load now = if p.near a.load now = true then now else p.want a.load := rfl
  obtain ⟨o, eo⟩ : ∃ o, o = p.open' a.load now := ⟨_, rfl⟩
  rw [← eo] at ho ⊢
  have hd := hd o
  obtain ⟨r, er⟩ : ∃ r, r = Dec.why p held o now a.repl := ⟨_, rfl⟩
  rw [← er] at hd ⊢
  obtain ⟨wt, ew⟩ : ∃ r, r = p.want a.load := ⟨_, rfl⟩
  rw [← ew] at hw ho
  obtain ⟨nr, en⟩ : ∃ r, r = p.near a.load now := ⟨_, rfl⟩
  rw [← en] at hn ho
  obtain ⟨tick, load, want, repl, why⟩ := a
  simp only at hn hw ho hd
  have HN := Lib.hid hn
  have HW := Lib.hid hw
  have HD := Lib.hid hd
  have HO := Lib.hid ho
  clear hn hw hd ho eo er ew en ha
  have hcase : (held = true ∧ r = 4) ∨ (held = false ∧ p.mx < o ∧ r = 6) ∨ (held = false ∧ ¬ p.mx < o ∧ o < p.mn ∧ r = 5) ∨ (held = false ∧ ¬ p.mx < o ∧ ¬ o < p.mn ∧ now < repl ∧ r = 2) ∨ (held = false ∧ ¬ p.mx < o ∧ ¬ o < p.mn ∧ ¬ now < repl ∧ repl < now ∧ r = 3) ∨ (held = false ∧ ¬ p.mx < o ∧ ¬ o < p.mn ∧ ¬ now < repl ∧ ¬ repl < now ∧ r = 1) := by
    have h := HD.out
    cases held with
    | true => rw [if_pos rfl] at h; exact .inl ⟨rfl, h⟩
    | false =>
      rw [if_neg (by simp)] at h
      by_cases t1 : p.mx < o
      · rw [if_pos t1] at h; exact .inr (.inl ⟨rfl, t1, h⟩)
      rw [if_neg t1] at h
      by_cases t2 : o < p.mn
      · rw [if_pos t2] at h; exact .inr (.inr (.inl ⟨rfl, t1, t2, h⟩))
      rw [if_neg t2] at h
      by_cases t3 : now < repl
      · rw [if_pos t3] at h; exact .inr (.inr (.inr (.inl ⟨rfl, t1, t2, t3, h⟩)))
      rw [if_neg t3] at h
      by_cases t4 : repl < now
      · rw [if_pos t4] at h; exact .inr (.inr (.inr (.inr (.inl ⟨rfl, t1, t2, t3, t4, h⟩))))
      rw [if_neg t4] at h
      exact .inr (.inr (.inr (.inr (.inr ⟨rfl, t1, t2, t3, t4, h⟩))))
  clear HD
  cases nr with
  | true =>
    have ho := HO.out
    rw [if_pos rfl] at ho
    subst ho
    rcases hcase with ⟨rfl, rfl⟩ | ⟨rfl, t1, rfl⟩ | ⟨rfl, t1, t2, rfl⟩ | ⟨rfl, t1, t2, t3, rfl⟩ | ⟨rfl, t1, t2, t3, t4, rfl⟩ | ⟨rfl, t1, t2, t3, t4, rfl⟩
    all_goals
      go_enter Tryz.func56, Tryz.ntmps56
      go_wp2_with (first | ((with_reducible refine wpList_load_rowAs rfl 23 _ rfl (w.heap.size) ?_ 23 #[.int .i64 p.mn, .int .i64 p.mx, .int .i64 p.tg, .int .i64 p.tl, .int .i64 p.wi, .int .i64 p.ho] (0, 0) _ 6 ?_ Tryz.underlying23 rfl (by kernel_rfl) ?_ ?_); exact rfl; exact (by first | (with_reducible exact heap_1_0 _ _) | (with_reducible exact heap_2_0 _ _ _) | (with_reducible exact heap_2_1 _ _ _) | (with_reducible exact heap_3_0 _ _ _ _) | (with_reducible exact heap_3_1 _ _ _ _) | (with_reducible exact heap_3_2 _ _ _ _) | (with_reducible exact heap_4_0 _ _ _ _ _) | (with_reducible exact heap_4_1 _ _ _ _ _) | (with_reducible exact heap_4_2 _ _ _ _ _) | (with_reducible exact heap_4_3 _ _ _ _ _) | (with_reducible exact heap_5_0 _ _ _ _ _ _) | (with_reducible exact heap_5_1 _ _ _ _ _ _) | (with_reducible exact heap_5_2 _ _ _ _ _ _) | (with_reducible exact heap_5_3 _ _ _ _ _ _) | (with_reducible exact heap_5_4 _ _ _ _ _ _) | (with_reducible exact heap_6_0 _ _ _ _ _ _ _) | (with_reducible exact heap_6_1 _ _ _ _ _ _ _) | (with_reducible exact heap_6_2 _ _ _ _ _ _ _) | (with_reducible exact heap_6_3 _ _ _ _ _ _ _) | (with_reducible exact heap_6_4 _ _ _ _ _ _ _) | (with_reducible exact heap_6_5 _ _ _ _ _ _ _) | simp only [heap_alloc_past, heap_alloc_at, World.size_alloc, Nat.add_assoc, Nat.reduceAdd, Nat.lt_add_right_iff_pos, Nat.add_lt_add_iff_left, Nat.reduceLT, Nat.zero_lt_succ, Nat.lt_add_one]); exact rfl))
      (with_reducible refine (HN.out _).mono ?_)
      rintro e w1 ⟨rfl, hb1⟩
      have M1 := Lib.hid ((((Mem.start w).alloc (.cells #[.int .i64 p.mn, .int .i64 p.mx, .int .i64 p.tg, .int .i64 p.tl, .int .i64 p.wi, .int .i64 p.ho] 23)).allocAs (w.heap.size + 1) (.cells #[.int .i64 tick, .int .i64 load, .int .i64 want, .int .i64 repl, .int .i64 why] 66) (by simp)).call hb1)
      clear hb1
      have c0 := M1.out.cell 0 0 rfl rfl
      have c1 := M1.out.cell 0 1 rfl rfl
      have c2 := M1.out.cell 1 3 rfl rfl
      go_wp2
      go_ret
      exact ⟨rfl, M1.out.below⟩
  | false =>
    have ho := HO.out
    rw [if_neg (by simp)] at ho
    subst ho
    rcases hcase with ⟨rfl, rfl⟩ | ⟨rfl, t1, rfl⟩ | ⟨rfl, t1, t2, rfl⟩ | ⟨rfl, t1, t2, t3, rfl⟩ | ⟨rfl, t1, t2, t3, t4, rfl⟩ | ⟨rfl, t1, t2, t3, t4, rfl⟩
    all_goals
      go_enter Tryz.func56, Tryz.ntmps56
      go_wp2_with (first | ((with_reducible refine wpList_load_rowAs rfl 23 _ rfl (w.heap.size) ?_ 23 #[.int .i64 p.mn, .int .i64 p.mx, .int .i64 p.tg, .int .i64 p.tl, .int .i64 p.wi, .int .i64 p.ho] (0, 0) _ 6 ?_ Tryz.underlying23 rfl (by kernel_rfl) ?_ ?_); exact rfl; exact (by first | (with_reducible exact heap_1_0 _ _) | (with_reducible exact heap_2_0 _ _ _) | (with_reducible exact heap_2_1 _ _ _) | (with_reducible exact heap_3_0 _ _ _ _) | (with_reducible exact heap_3_1 _ _ _ _) | (with_reducible exact heap_3_2 _ _ _ _) | (with_reducible exact heap_4_0 _ _ _ _ _) | (with_reducible exact heap_4_1 _ _ _ _ _) | (with_reducible exact heap_4_2 _ _ _ _ _) | (with_reducible exact heap_4_3 _ _ _ _ _) | (with_reducible exact heap_5_0 _ _ _ _ _ _) | (with_reducible exact heap_5_1 _ _ _ _ _ _) | (with_reducible exact heap_5_2 _ _ _ _ _ _) | (with_reducible exact heap_5_3 _ _ _ _ _ _) | (with_reducible exact heap_5_4 _ _ _ _ _ _) | (with_reducible exact heap_6_0 _ _ _ _ _ _ _) | (with_reducible exact heap_6_1 _ _ _ _ _ _ _) | (with_reducible exact heap_6_2 _ _ _ _ _ _ _) | (with_reducible exact heap_6_3 _ _ _ _ _ _ _) | (with_reducible exact heap_6_4 _ _ _ _ _ _ _) | (with_reducible exact heap_6_5 _ _ _ _ _ _ _) | simp only [heap_alloc_past, heap_alloc_at, World.size_alloc, Nat.add_assoc, Nat.reduceAdd, Nat.lt_add_right_iff_pos, Nat.add_lt_add_iff_left, Nat.reduceLT, Nat.zero_lt_succ, Nat.lt_add_one]); exact rfl))
      (with_reducible refine (HN.out _).mono ?_)
      rintro e w1 ⟨rfl, hb1⟩
      have M1 := Lib.hid ((((Mem.start w).alloc (.cells #[.int .i64 p.mn, .int .i64 p.mx, .int .i64 p.tg, .int .i64 p.tl, .int .i64 p.wi, .int .i64 p.ho] 23)).allocAs (w.heap.size + 1) (.cells #[.int .i64 tick, .int .i64 load, .int .i64 want, .int .i64 repl, .int .i64 why] 66) (by simp)).call hb1)
      clear hb1
      have c3 := M1.out.cell 1 1 rfl rfl
      have K0 := Lib.hid (M1.out.heap 0 rfl)
      go_wp2_with ((with_reducible refine wpList_load_rowAs rfl 23 _ rfl (w.heap.size) ?_ 23 #[.int .i64 p.mn, .int .i64 p.mx, .int .i64 p.tg, .int .i64 p.tl, .int .i64 p.wi, .int .i64 p.ho] (0, 0) _ 6 ?_ Tryz.underlying23 rfl (by kernel_rfl) ?_ ?_); exact rfl; exact K0.out; exact rfl)
      (with_reducible refine (HW.out _).mono ?_)
      rintro e w2 ⟨rfl, hb2⟩
      have M2 := Lib.hid (M1.out.call hb2)
      clear hb2 c3 K0
      have c0 := M2.out.cell 0 0 rfl rfl
      have c1 := M2.out.cell 0 1 rfl rfl
      have c2 := M2.out.cell 1 3 rfl rfl
      go_wp2
      go_ret
      exact ⟨rfl, M2.out.below⟩
end Go.Proofs.YtldhbgefpfmkmaaGreat

/- Layer 16: the decision. -/
namespace Go.Proofs.YtldhbgefpfmkmaaGreat
open Go.ChangeShapes Go.WideShapes Go.ChangeAt Go.RowKit

theorem advSize : (Tryz.prog.info? 66).map (·.size) = some 5 := by kernel_rfl

theorem stat_field4 (a b c d e : Int) (w : World) : (Instr.field 99 (.agg #[.int .i64 a, .int .i64 b, .int .i64 c, .int .i64 d, .int .i64 e]) 4).run Tryz.prog w = .ok (.int .i64 e) w := by kernel_rfl

theorem Dec.of_bad {p : Pol} {l : List Samp} {past : List Adv} (h : p.ok = false) : Dec.of p l past = ⟨0, 0, 0, 0, 0⟩ ∧ Dec.err p l = 7 := by
  have : Dec.err p l = 7 := by unfold Dec.err; rw [if_neg (by rw [h]; simp)]
  exact ⟨by unfold Dec.of; rw [if_neg (by rw [this]; omega)], this⟩
theorem Dec.of_none {p : Pol} {l : List Samp} {past : List Adv} (h : p.ok = true) (h0 : l.length = 0) : Dec.of p l past = ⟨0, 0, 0, 0, 0⟩ ∧ Dec.err p l = 5 := by
  have : Dec.err p l = 5 := by unfold Dec.err; rw [if_pos h, if_pos h0]
  exact ⟨by unfold Dec.of; rw [if_neg (by rw [this]; omega)], this⟩
theorem Dec.of_some {p : Pol} {l : List Samp} {past : List Adv} (h : p.ok = true) (h0 : l.length ≠ 0) : Dec.of p l past = Dec.adv p l past ∧ Dec.err p l = 0 := by
  have : Dec.err p l = 0 := by unfold Dec.err; rw [if_pos h, if_neg h0]
  exact ⟨by unfold Dec.of; rw [if_pos this], this⟩

theorem Pol.raw_open (p : Pol) (load now : Int) : p.raw load now = p.bound (p.open' load now) := by
  unfold Pol.raw Pol.open'
  split <;> rfl

set_option maxHeartbeats 1000000 in
set_option maxRecDepth 100000 in
theorem decide_of (p : Pol) (hp : p.In) (sp : Option Addr) (sc : Nat) (l : List Samp) (hin : ∀ a ∈ l, a.In) (hb : l.length ≤ 100000) (q : Option Addr) (cap : Nat) (past : List Adv) (hpa : ∀ a ∈ past, a.In) (hb2 : past.length ≤ 100000)
    (o : Adv) (eo : o = Dec.of p l past) (w : World) (hs : Samps w sp l) (hq : Advs w q past) :
    Calls Tryz.prog 29 #[.agg #[.int .i64 p.mn, .int .i64 p.mx, .int .i64 p.tg, .int .i64 p.tl, .int .i64 p.wi, .int .i64 p.ho], .slice sp l.length sc, .slice q past.length cap] w fun e w' => e = .returned (.tuple #[.agg #[.int .i64 o.tick, .int .i64 o.load, .int .i64 o.want, .int .i64 o.repl, .int .i64 o.why], .int .i64 (Dec.err p l)]) ∧ Below w.heap.size w w' := by
  have hc := policy_check p
  have herr : p.err = if p.ok = true then 0 else 7 := rfl
  cases hok : p.ok with
  | false =>
    rw [herr, if_neg (by rw [hok]; simp)] at hc
    obtain ⟨e1, e2⟩ := Dec.of_bad (l := l) (past := past) hok
    rw [e1] at eo
    rw [e2]
    subst eo
    have HC := Lib.hid hc
    clear hc herr hok e1 e2 hs hq hin hpa hp
    obtain ⟨n, hn⟩ : ∃ n, n = l.length := ⟨_, rfl⟩
    obtain ⟨m, hm⟩ : ∃ n, n = past.length := ⟨_, rfl⟩
    rw [← hn, ← hm]
    clear hn hm hb hb2
    go_enter Tryz.func29, Tryz.ntmps29
    go_wp2_with ((with_reducible refine wpList_load_rowAs rfl 23 _ rfl (w.heap.size) ?_ 23 #[.int .i64 p.mn, .int .i64 p.mx, .int .i64 p.tg, .int .i64 p.tl, .int .i64 p.wi, .int .i64 p.ho] (0, 0) _ 6 ?_ Tryz.underlying23 rfl (by kernel_rfl) ?_ ?_); exact rfl; exact (by first | (with_reducible exact heap_1_0 _ _) | (with_reducible exact heap_2_0 _ _ _) | (with_reducible exact heap_2_1 _ _ _) | (with_reducible exact heap_3_0 _ _ _ _) | (with_reducible exact heap_3_1 _ _ _ _) | (with_reducible exact heap_3_2 _ _ _ _) | (with_reducible exact heap_4_0 _ _ _ _ _) | (with_reducible exact heap_4_1 _ _ _ _ _) | (with_reducible exact heap_4_2 _ _ _ _ _) | (with_reducible exact heap_4_3 _ _ _ _ _) | (with_reducible exact heap_5_0 _ _ _ _ _ _) | (with_reducible exact heap_5_1 _ _ _ _ _ _) | (with_reducible exact heap_5_2 _ _ _ _ _ _) | (with_reducible exact heap_5_3 _ _ _ _ _ _) | (with_reducible exact heap_5_4 _ _ _ _ _ _) | (with_reducible exact heap_6_0 _ _ _ _ _ _ _) | (with_reducible exact heap_6_1 _ _ _ _ _ _ _) | (with_reducible exact heap_6_2 _ _ _ _ _ _ _) | (with_reducible exact heap_6_3 _ _ _ _ _ _ _) | (with_reducible exact heap_6_4 _ _ _ _ _ _ _) | (with_reducible exact heap_6_5 _ _ _ _ _ _ _) | simp only [heap_alloc_past, heap_alloc_at, World.size_alloc, Nat.add_assoc, Nat.reduceAdd, Nat.lt_add_right_iff_pos, Nat.add_lt_add_iff_left, Nat.reduceLT, Nat.zero_lt_succ, Nat.lt_add_one]); exact rfl)
    (with_reducible refine (HC.out _).mono ?_)
    rintro e w1 ⟨rfl, hb1⟩
    have M1 := Lib.hid ((((Mem.start w).alloc (.cells #[.int .i64 p.mn, .int .i64 p.mx, .int .i64 p.tg, .int .i64 p.tl, .int .i64 p.wi, .int .i64 p.ho] 23)).allocAs (w.heap.size + 1) (.cells #[.int .i64 0, .int .i64 0, .int .i64 0, .int .i64 0, .int .i64 0] 66) (by simp)).call hb1)
    have K1 := Lib.hid (M1.out.heap 1 rfl)
    clear hb1
    go_wp2_with ((with_reducible refine wpList_store_rowAs rfl 66 _ _ rfl ((w.heap.size + 1)) #[.int .i64 0, .int .i64 0, .int .i64 0, .int .i64 0, .int .i64 0] ?_ ?_ 66 #[.int .i64 0, .int .i64 0, .int .i64 0, .int .i64 0, .int .i64 0] 5 ?_ (by kernel_rfl) rfl rfl (by simp [Value.oneCell']) ?_); exact rfl; exact rfl; exact K1.out)
    exact bodyPost_ret (results_row_tmp rfl _ _ (w.heap.size + 1) 66 #[.int .i64 0, .int .i64 0, .int .i64 0, .int .i64 0, .int .i64 0] (0, 0) _ 5 _ rfl rfl ((M1.out.setRow 1 rfl).heap 1 rfl) Tryz.underlying66 rfl advSize rfl) rfl ⟨rfl, (M1.out.setRow 1 rfl).below⟩
  | true =>
    rw [herr, if_pos hok] at hc
    by_cases h0 : l.length = 0
    · obtain ⟨e1, e2⟩ := Dec.of_none (past := past) hok h0
      rw [e1] at eo
      rw [e2, h0]
      subst eo
      have HC := Lib.hid hc
      clear hc herr hok e1 e2 hs hq hin hpa hp h0
      obtain ⟨m, hm⟩ : ∃ n, n = past.length := ⟨_, rfl⟩
      rw [← hm]
      clear hm hb hb2
      go_enter Tryz.func29, Tryz.ntmps29
      go_wp2_with ((with_reducible refine wpList_load_rowAs rfl 23 _ rfl (w.heap.size) ?_ 23 #[.int .i64 p.mn, .int .i64 p.mx, .int .i64 p.tg, .int .i64 p.tl, .int .i64 p.wi, .int .i64 p.ho] (0, 0) _ 6 ?_ Tryz.underlying23 rfl (by kernel_rfl) ?_ ?_); exact rfl; exact (by first | (with_reducible exact heap_1_0 _ _) | (with_reducible exact heap_2_0 _ _ _) | (with_reducible exact heap_2_1 _ _ _) | (with_reducible exact heap_3_0 _ _ _ _) | (with_reducible exact heap_3_1 _ _ _ _) | (with_reducible exact heap_3_2 _ _ _ _) | (with_reducible exact heap_4_0 _ _ _ _ _) | (with_reducible exact heap_4_1 _ _ _ _ _) | (with_reducible exact heap_4_2 _ _ _ _ _) | (with_reducible exact heap_4_3 _ _ _ _ _) | (with_reducible exact heap_5_0 _ _ _ _ _ _) | (with_reducible exact heap_5_1 _ _ _ _ _ _) | (with_reducible exact heap_5_2 _ _ _ _ _ _) | (with_reducible exact heap_5_3 _ _ _ _ _ _) | (with_reducible exact heap_5_4 _ _ _ _ _ _) | (with_reducible exact heap_6_0 _ _ _ _ _ _ _) | (with_reducible exact heap_6_1 _ _ _ _ _ _ _) | (with_reducible exact heap_6_2 _ _ _ _ _ _ _) | (with_reducible exact heap_6_3 _ _ _ _ _ _ _) | (with_reducible exact heap_6_4 _ _ _ _ _ _ _) | (with_reducible exact heap_6_5 _ _ _ _ _ _ _) | simp only [heap_alloc_past, heap_alloc_at, World.size_alloc, Nat.add_assoc, Nat.reduceAdd, Nat.lt_add_right_iff_pos, Nat.add_lt_add_iff_left, Nat.reduceLT, Nat.zero_lt_succ, Nat.lt_add_one]); exact rfl)
      (with_reducible refine (HC.out _).mono ?_)
      rintro e w1 ⟨rfl, hb1⟩
      have M1 := Lib.hid ((((Mem.start w).alloc (.cells #[.int .i64 p.mn, .int .i64 p.mx, .int .i64 p.tg, .int .i64 p.tl, .int .i64 p.wi, .int .i64 p.ho] 23)).allocAs (w.heap.size + 1) (.cells #[.int .i64 0, .int .i64 0, .int .i64 0, .int .i64 0, .int .i64 0] 66) (by simp)).call hb1)
      have K1 := Lib.hid (M1.out.heap 1 rfl)
      clear hb1
      go_wp2_with ((with_reducible refine wpList_store_rowAs rfl 66 _ _ rfl ((w.heap.size + 1)) #[.int .i64 0, .int .i64 0, .int .i64 0, .int .i64 0, .int .i64 0] ?_ ?_ 66 #[.int .i64 0, .int .i64 0, .int .i64 0, .int .i64 0, .int .i64 0] 5 ?_ (by kernel_rfl) rfl rfl (by simp [Value.oneCell']) ?_); exact rfl; exact rfl; exact K1.out)
      exact bodyPost_ret (results_row_tmp rfl _ _ (w.heap.size + 1) 66 #[.int .i64 0, .int .i64 0, .int .i64 0, .int .i64 0, .int .i64 0] (0, 0) _ 5 _ rfl rfl ((M1.out.setRow 1 rfl).heap 1 rfl) Tryz.underlying66 rfl advSize rfl) rfl ⟨rfl, (M1.out.setRow 1 rfl).below⟩
    · obtain ⟨e1, e2⟩ := Dec.of_some (past := past) hok h0
      rw [e1] at eo
      rw [e2]
      have hlat := Dec.latest_I64 l h0 hin
      have hnow := Dec.now_I64 p hp past hpa
      have hld := Dec.load_I64 p l
      have f1 := fun W : World => fun h : Advs W q past => decide_now p q cap past (by omega) W h
      have f2 := fun W : World => fun h : Samps W sp l => decide_latest sp sc l h0 hb W h
      have f3 := fun W : World => fun h : Samps W sp l => window_at sp sc l hin hb (Dec.latest l) p.wi hlat hp.2.2.2.2.1 _ rfl W h
      have f4 := control_raw p hp (Dec.load p l) (Dec.now p past) hld
      have f5 := fun W : World => fun h : Advs W q past => steady_of p hp (Dec.latest l) (Dec.wants p l past) hlat q cap past (by omega) W h
      have f6 := control_bound p (Dec.held p l past).1
      have f7 := fun a : Adv => fun ha : I64 a.load => decide_why p hp a ha (Dec.now p past) (Dec.held p l past).2
      have ef : (Stat.of (Samp.vals (Samp.cut (Win.from (Dec.latest l) p.wi) (Dec.latest l) l))).mean = Dec.load p l := rfl
      have ew : p.raw (Dec.load p l) (Dec.now p past) = Dec.wants p l past := rfl
      have eh : Adv.held p (Dec.latest l) (Dec.wants p l past) past = Dec.held p l past := rfl
      rw [ew] at f4
      simp only [eh] at f5
      unfold Dec.adv at eo
      obtain ⟨st, est⟩ : ∃ st, st = Stat.of (Samp.vals (Samp.cut (Win.from (Dec.latest l) p.wi) (Dec.latest l) l)) := ⟨_, rfl⟩
      simp only [← est] at f3
      rw [← est] at ef
      obtain ⟨cnt, sm, ls, ms, mn⟩ := st
      simp only at f3 ef
      subst ef
      obtain ⟨now, enow⟩ : ∃ x, x = Dec.now p past := ⟨_, rfl⟩
      obtain ⟨tick, etick⟩ : ∃ x, x = Dec.latest l := ⟨_, rfl⟩
      obtain ⟨load, eload⟩ : ∃ x, x = Dec.load p l := ⟨_, rfl⟩
      obtain ⟨want, ewant⟩ : ∃ x, x = Dec.wants p l past := ⟨_, rfl⟩
      obtain ⟨hd, ehd⟩ : ∃ x, x = Dec.held p l past := ⟨_, rfl⟩
      simp only [← enow] at f1 f4 f7 eo
      simp only [← etick] at f2 f3 f5 eo
      simp only [← eload] at f3 f4 eo hld
      simp only [← ewant] at f4 f5 eo
      simp only [← ehd] at f5 f6 f7 eo
      obtain ⟨hn, hh⟩ := hd
      simp only at f5 f6 f7 eo
      obtain ⟨rp, erp⟩ : ∃ x, x = p.bound hn := ⟨_, rfl⟩
      rw [← erp] at f6 eo
      have f7 := f7 ⟨tick, load, want, rp, 0⟩ hld
      simp only at f7
      obtain ⟨why, ewhy⟩ : ∃ x, x = Dec.why p hh (p.open' load now) now rp := ⟨_, rfl⟩
      rw [← ewhy] at f7 eo
      subst eo
      obtain ⟨n, en⟩ : ∃ n, n = l.length := ⟨_, rfl⟩
      obtain ⟨m, em⟩ : ∃ n, n = past.length := ⟨_, rfl⟩
      rw [← en] at h0 hb
      simp only [← en] at f2 f3 ⊢
      simp only [← em] at f1 f5 ⊢
      have HC := Lib.hid hc
      have F1 := Lib.hid f1
      have F2 := Lib.hid f2
      have F3 := Lib.hid f3
      have F4 := Lib.hid f4
      have F5 := Lib.hid f5
      have F6 := Lib.hid f6
      have F7 := Lib.hid f7
      have HS := Lib.hid hs
      have HQ := Lib.hid hq
      have d0 : ((n : Int) == 0) = false := beq_eq_false_iff_ne.2 (by omega)
      clear hc f1 f2 f3 f4 f5 f6 f7 hs hq hin hpa hp hok herr e1 e2 hlat hnow hld ew eh est enow etick eload ewant ehd erp ewhy en em hb hb2
      go_enter Tryz.func29, Tryz.ntmps29
      go_wp2_with ((with_reducible refine wpList_load_rowAs rfl 23 _ rfl (w.heap.size) ?_ 23 #[.int .i64 p.mn, .int .i64 p.mx, .int .i64 p.tg, .int .i64 p.tl, .int .i64 p.wi, .int .i64 p.ho] (0, 0) _ 6 ?_ Tryz.underlying23 rfl (by kernel_rfl) ?_ ?_); exact rfl; exact (by first | (with_reducible exact heap_1_0 _ _) | (with_reducible exact heap_2_0 _ _ _) | (with_reducible exact heap_2_1 _ _ _) | (with_reducible exact heap_3_0 _ _ _ _) | (with_reducible exact heap_3_1 _ _ _ _) | (with_reducible exact heap_3_2 _ _ _ _) | (with_reducible exact heap_4_0 _ _ _ _ _) | (with_reducible exact heap_4_1 _ _ _ _ _) | (with_reducible exact heap_4_2 _ _ _ _ _) | (with_reducible exact heap_4_3 _ _ _ _ _) | (with_reducible exact heap_5_0 _ _ _ _ _ _) | (with_reducible exact heap_5_1 _ _ _ _ _ _) | (with_reducible exact heap_5_2 _ _ _ _ _ _) | (with_reducible exact heap_5_3 _ _ _ _ _ _) | (with_reducible exact heap_5_4 _ _ _ _ _ _) | (with_reducible exact heap_6_0 _ _ _ _ _ _ _) | (with_reducible exact heap_6_1 _ _ _ _ _ _ _) | (with_reducible exact heap_6_2 _ _ _ _ _ _ _) | (with_reducible exact heap_6_3 _ _ _ _ _ _ _) | (with_reducible exact heap_6_4 _ _ _ _ _ _ _) | (with_reducible exact heap_6_5 _ _ _ _ _ _ _) | simp only [heap_alloc_past, heap_alloc_at, World.size_alloc, Nat.add_assoc, Nat.reduceAdd, Nat.lt_add_right_iff_pos, Nat.add_lt_add_iff_left, Nat.reduceLT, Nat.zero_lt_succ, Nat.lt_add_one]); exact rfl)
      (with_reducible refine (HC.out _).mono ?_)
      rintro e w1 ⟨rfl, hb1⟩
      have M1 := Lib.hid ((((Mem.start w).alloc (.cells #[.int .i64 p.mn, .int .i64 p.mx, .int .i64 p.tg, .int .i64 p.tl, .int .i64 p.wi, .int .i64 p.ho] 23)).allocAs (w.heap.size + 1) (.cells #[.int .i64 0, .int .i64 0, .int .i64 0, .int .i64 0, .int .i64 0] 66) (by simp)).call hb1)
      have K1 := Lib.hid (M1.out.heap 0 rfl)
      clear hb1
      go_wp2_with ((with_reducible refine wpList_load_rowAs rfl 23 _ rfl (w.heap.size) ?_ 23 #[.int .i64 p.mn, .int .i64 p.mx, .int .i64 p.tg, .int .i64 p.tl, .int .i64 p.wi, .int .i64 p.ho] (0, 0) _ 6 ?_ Tryz.underlying23 rfl (by kernel_rfl) ?_ ?_); exact rfl; exact K1.out; exact rfl)
      (with_reducible refine (F1.out _ (HQ.out.below M1.out.below)).mono ?_)
      rintro e w2 ⟨rfl, hb2⟩
      have M2 := Lib.hid (M1.out.call hb2)
      clear hb2 K1
      go_wp2_with fail
      (with_reducible refine (F2.out _ (HS.out.below M2.out.below)).mono ?_)
      rintro e w3 ⟨rfl, hb3⟩
      have M3 := Lib.hid ((M2.out.call hb3).alloc (.cells #[.int .i64 tick, .int .i64 0, .int .i64 0, .int .i64 0, .int .i64 0] 66))
      have c1 : (w3.alloc (.cells #[.int .i64 tick, .int .i64 0, .int .i64 0, .int .i64 0, .int .i64 0] 66)).cell? ⟨w3.heap.size, 0, none⟩ = some (.int .i64 tick) := M3.out.cell 2 0 rfl rfl
      have c2 : (w3.alloc (.cells #[.int .i64 tick, .int .i64 0, .int .i64 0, .int .i64 0, .int .i64 0] 66)).cell? ⟨w.heap.size, 4, none⟩ = some (.int .i64 p.wi) := M3.out.cell 0 4 rfl rfl
      clear hb3
      go_wp2_with ((with_reducible refine wpList_store_rowAs rfl 66 _ _ rfl (w3.heap.size) #[.int .i64 tick, .int .i64 0, .int .i64 0, .int .i64 0, .int .i64 0] ?_ ?_ 66 #[.int .i64 0, .int .i64 0, .int .i64 0, .int .i64 0, .int .i64 0] 5 ?_ (by kernel_rfl) rfl rfl (by simp [Value.oneCell']) ?_); exact rfl; exact rfl; exact (heap_alloc_at _ _ _ rfl); (first | rw [row_1_0] | rw [row_2_0] | rw [row_2_1] | rw [row_3_0] | rw [row_3_1] | rw [row_3_2] | rw [row_4_0] | rw [row_4_1] | rw [row_4_2] | rw [row_4_3] | rw [row_5_0] | rw [row_5_1] | rw [row_5_2] | rw [row_5_3] | rw [row_5_4] | rw [row_6_0] | rw [row_6_1] | rw [row_6_2] | rw [row_6_3] | rw [row_6_4] | rw [row_6_5] | simp only [setRow_alloc_past, setRow_alloc_at, World.size_alloc, Nat.add_assoc, Nat.reduceAdd, Nat.lt_add_right_iff_pos, Nat.add_lt_add_iff_left, Nat.reduceLT, Nat.zero_lt_succ, Nat.lt_add_one]))
      (with_reducible refine (F3.out _ (HS.out.below M3.out.below)).mono ?_)
      rintro e w4 ⟨rfl, hb4⟩
      have M4 := Lib.hid (M3.out.call hb4)
      clear hb4 c1 c2
      have hfld := stat_field4
      have c1 := M4.out.cell 2 1 rfl rfl
      have g1 := M4.out.free 2 1 rfl
      have M5 := Lib.hid (M4.out.setCell 2 1 (.int .i64 load) rfl)
      have c2 := M5.out.cell 2 1 rfl rfl
      have K0 := Lib.hid (M5.out.heap 0 rfl)
      go_wp2_with ((with_reducible refine wpList_load_rowAs rfl 23 _ rfl (w.heap.size) ?_ 23 #[.int .i64 p.mn, .int .i64 p.mx, .int .i64 p.tg, .int .i64 p.tl, .int .i64 p.wi, .int .i64 p.ho] (0, 0) _ 6 ?_ Tryz.underlying23 rfl (by kernel_rfl) ?_ ?_); exact rfl; exact K0.out; exact rfl)
      (with_reducible refine (F4.out _).mono ?_)
      rintro e w5 ⟨rfl, hb5⟩
      have M6 := Lib.hid (M5.out.call hb5)
      clear hfld hb5 c1 c2 g1 K0 M5 M4
      have c1 := M6.out.cell 2 2 rfl rfl
      have g1 := M6.out.free 2 2 rfl
      have M7 := Lib.hid (M6.out.setCell 2 2 (.int .i64 want) rfl)
      have c2 := M7.out.cell 2 0 rfl rfl
      have c3 := M7.out.cell 2 2 rfl rfl
      have K0 := Lib.hid (M7.out.heap 0 rfl)
      go_wp2_with ((with_reducible refine wpList_load_rowAs rfl 23 _ rfl (w.heap.size) ?_ 23 #[.int .i64 p.mn, .int .i64 p.mx, .int .i64 p.tg, .int .i64 p.tl, .int .i64 p.wi, .int .i64 p.ho] (0, 0) _ 6 ?_ Tryz.underlying23 rfl (by kernel_rfl) ?_ ?_); exact rfl; exact K0.out; exact rfl)
      (with_reducible refine (F5.out _ (HQ.out.below M7.out.below)).mono ?_)
      rintro e w6 ⟨rfl, hb6⟩
      have M8 := Lib.hid (M7.out.call hb6)
      clear hb6 c1 c2 c3 g1 K0 M6 M7
      have K0 := Lib.hid (M8.out.heap 0 rfl)
      go_wp2_with ((with_reducible refine wpList_load_rowAs rfl 23 _ rfl (w.heap.size) ?_ 23 #[.int .i64 p.mn, .int .i64 p.mx, .int .i64 p.tg, .int .i64 p.tl, .int .i64 p.wi, .int .i64 p.ho] (0, 0) _ 6 ?_ Tryz.underlying23 rfl (by kernel_rfl) ?_ ?_); exact rfl; exact K0.out; exact rfl)
      (with_reducible refine (F6.out _).mono ?_)
      rintro e w7 ⟨rfl, hb7⟩
      have M9 := Lib.hid (M8.out.call hb7)
      clear hb7 K0 M8
      have c1 := M9.out.cell 2 3 rfl rfl
      have g1 := M9.out.free 2 3 rfl
      have MA := Lib.hid (M9.out.setCell 2 3 (.int .i64 rp) rfl)
      have K0 := Lib.hid (MA.out.heap 0 rfl)
      have K1 : Hid ((w7.setCell ⟨w3.heap.size, 3, none⟩ (.int .i64 rp)).heap[w3.heap.size]? = some (.cells #[.int .i64 tick, .int .i64 load, .int .i64 want, .int .i64 rp, .int .i64 0] 66 (0, 0))) := MA.out.heap 2 rfl
      go_wp2_with (first | ((with_reducible refine wpList_load_rowAs rfl 23 _ rfl (w.heap.size) ?_ 23 #[.int .i64 p.mn, .int .i64 p.mx, .int .i64 p.tg, .int .i64 p.tl, .int .i64 p.wi, .int .i64 p.ho] (0, 0) _ 6 ?_ Tryz.underlying23 rfl (by kernel_rfl) ?_ ?_); exact rfl; exact K0.out; exact rfl) | ((with_reducible refine wpList_load_rowAs rfl 66 _ rfl (w3.heap.size) ?_ 66 #[.int .i64 tick, .int .i64 load, .int .i64 want, .int .i64 rp, .int .i64 0] (0, 0) _ 5 ?_ Tryz.underlying66 rfl (by kernel_rfl) ?_ ?_); exact rfl; exact K1.out; exact rfl))
      (with_reducible refine (F7.out _).mono ?_)
      rintro e w8 ⟨rfl, hb8⟩
      have MB := Lib.hid (MA.out.call hb8)
      clear hb8 K0 K1 c1 g1 MA M9
      have c1 := MB.out.cell 2 4 rfl rfl
      have g1 := MB.out.free 2 4 rfl
      have MC := Lib.hid (MB.out.setCell 2 4 (.int .i64 why) rfl)
      have K1 : Hid ((w8.setCell ⟨w3.heap.size, 4, none⟩ (.int .i64 why)).heap[w3.heap.size]? = some (.cells #[.int .i64 tick, .int .i64 load, .int .i64 want, .int .i64 rp, .int .i64 why] 66 (0, 0))) := MC.out.heap 2 rfl
      have K2 := Lib.hid (MC.out.heap 1 rfl)
      have MD := MC.out.setRow 1 (cs := #[.int .i64 tick, .int .i64 load, .int .i64 want, .int .i64 rp, .int .i64 why]) rfl
      have MD := Lib.hid MD
      go_wp2_with (first | ((with_reducible refine wpList_load_rowAs rfl 66 _ rfl (w3.heap.size) ?_ 66 #[.int .i64 tick, .int .i64 load, .int .i64 want, .int .i64 rp, .int .i64 why] (0, 0) _ 5 ?_ Tryz.underlying66 rfl (by kernel_rfl) ?_ ?_); exact rfl; exact K1.out; exact rfl) | ((with_reducible refine wpList_store_rowAs rfl 66 _ _ rfl ((w.heap.size + 1)) #[.int .i64 tick, .int .i64 load, .int .i64 want, .int .i64 rp, .int .i64 why] ?_ ?_ 66 #[.int .i64 0, .int .i64 0, .int .i64 0, .int .i64 0, .int .i64 0] 5 ?_ (by kernel_rfl) rfl rfl (by simp [Value.oneCell']) ?_); exact rfl; exact rfl; exact K2.out))
      exact bodyPost_ret (results_row_tmp rfl _ _ (w.heap.size + 1) 66 #[.int .i64 tick, .int .i64 load, .int .i64 want, .int .i64 rp, .int .i64 why] (0, 0) _ 5 _ rfl rfl (MD.out.heap 1 rfl) Tryz.underlying66 rfl advSize rfl) rfl ⟨rfl, MD.out.below⟩
end Go.Proofs.YtldhbgefpfmkmaaGreat

/- Layer 16: the decision, by the reference. -/
namespace Go.Proofs.YtldhbgefpfmkmaaGreat
open Go.ChangeShapes Go.WideShapes Go.ChangeAt Go.RowKit

set_option maxHeartbeats 1000000 in
set_option maxRecDepth 100000 in
theorem ref16_of (p : Pol) (hp : p.In) (sp : Option Addr) (sc : Nat) (l : List Samp) (hin : ∀ a ∈ l, a.In) (hb : l.length ≤ 100000) (q : Option Addr) (cap : Nat) (past : List Adv) (hpa : ∀ a ∈ past, a.In) (hb2 : past.length ≤ 100000)
    (o : Adv) (eo : o = Dec.of p l past) (w : World) (hs : Samps w sp l) (hq : Advs w q past) :
    Calls Tryz.prog 24 #[.agg #[.int .i64 p.mn, .int .i64 p.mx, .int .i64 p.tg, .int .i64 p.tl, .int .i64 p.wi, .int .i64 p.ho], .slice sp l.length sc, .slice q past.length cap] w fun e w' => e = .returned (.tuple #[.agg #[.int .i64 o.tick, .int .i64 o.load, .int .i64 o.want, .int .i64 o.repl, .int .i64 o.why], .int .i64 (Dec.err p l)]) ∧ Below w.heap.size w w' := by
  have hc := ref_polRight p
  cases hok : p.ok with
  | false =>
    rw [hok] at hc
    obtain ⟨e1, e2⟩ := Dec.of_bad (l := l) (past := past) hok
    rw [e1] at eo
    rw [e2]
    subst eo
    have HC := Lib.hid hc
    clear hc hok e1 e2 hs hq hin hpa hp
    obtain ⟨n, hn⟩ : ∃ n, n = l.length := ⟨_, rfl⟩
    obtain ⟨m, hm⟩ : ∃ n, n = past.length := ⟨_, rfl⟩
    rw [← hn, ← hm]
    clear hn hm hb hb2
    go_enter Tryz.func24, Tryz.ntmps24
    go_wp2_with ((with_reducible refine wpList_load_rowAs rfl 23 _ rfl (w.heap.size) ?_ 23 #[.int .i64 p.mn, .int .i64 p.mx, .int .i64 p.tg, .int .i64 p.tl, .int .i64 p.wi, .int .i64 p.ho] (0, 0) _ 6 ?_ Tryz.underlying23 rfl (by kernel_rfl) ?_ ?_); exact rfl; exact (by first | (with_reducible exact heap_1_0 _ _) | (with_reducible exact heap_2_0 _ _ _) | (with_reducible exact heap_2_1 _ _ _) | (with_reducible exact heap_3_0 _ _ _ _) | (with_reducible exact heap_3_1 _ _ _ _) | (with_reducible exact heap_3_2 _ _ _ _) | (with_reducible exact heap_4_0 _ _ _ _ _) | (with_reducible exact heap_4_1 _ _ _ _ _) | (with_reducible exact heap_4_2 _ _ _ _ _) | (with_reducible exact heap_4_3 _ _ _ _ _) | (with_reducible exact heap_5_0 _ _ _ _ _ _) | (with_reducible exact heap_5_1 _ _ _ _ _ _) | (with_reducible exact heap_5_2 _ _ _ _ _ _) | (with_reducible exact heap_5_3 _ _ _ _ _ _) | (with_reducible exact heap_5_4 _ _ _ _ _ _) | (with_reducible exact heap_6_0 _ _ _ _ _ _ _) | (with_reducible exact heap_6_1 _ _ _ _ _ _ _) | (with_reducible exact heap_6_2 _ _ _ _ _ _ _) | (with_reducible exact heap_6_3 _ _ _ _ _ _ _) | (with_reducible exact heap_6_4 _ _ _ _ _ _ _) | (with_reducible exact heap_6_5 _ _ _ _ _ _ _) | simp only [heap_alloc_past, heap_alloc_at, World.size_alloc, Nat.add_assoc, Nat.reduceAdd, Nat.lt_add_right_iff_pos, Nat.add_lt_add_iff_left, Nat.reduceLT, Nat.zero_lt_succ, Nat.lt_add_one]); exact rfl)
    (with_reducible refine (HC.out _).mono ?_)
    rintro e w1 ⟨rfl, hb1⟩
    have M1 := Lib.hid ((((Mem.start w).alloc (.cells #[.int .i64 p.mn, .int .i64 p.mx, .int .i64 p.tg, .int .i64 p.tl, .int .i64 p.wi, .int .i64 p.ho] 23)).allocAs (w.heap.size + 1) (.cells #[.int .i64 0, .int .i64 0, .int .i64 0, .int .i64 0, .int .i64 0] 66) (by simp)).call hb1)
    have K1 := Lib.hid (M1.out.heap 1 rfl)
    clear hb1
    go_wp2_with ((with_reducible refine wpList_store_rowAs rfl 66 _ _ rfl ((w.heap.size + 1)) #[.int .i64 0, .int .i64 0, .int .i64 0, .int .i64 0, .int .i64 0] ?_ ?_ 66 #[.int .i64 0, .int .i64 0, .int .i64 0, .int .i64 0, .int .i64 0] 5 ?_ (by kernel_rfl) rfl rfl (by simp [Value.oneCell']) ?_); exact rfl; exact rfl; exact K1.out)
    exact bodyPost_ret (results_row_tmp rfl _ _ (w.heap.size + 1) 66 #[.int .i64 0, .int .i64 0, .int .i64 0, .int .i64 0, .int .i64 0] (0, 0) _ 5 _ rfl rfl ((M1.out.setRow 1 rfl).heap 1 rfl) Tryz.underlying66 rfl advSize rfl) rfl ⟨rfl, (M1.out.setRow 1 rfl).below⟩
  | true =>
    rw [hok] at hc
    by_cases h0 : l.length = 0
    · obtain ⟨e1, e2⟩ := Dec.of_none (past := past) hok h0
      rw [e1] at eo
      rw [e2, h0]
      subst eo
      have HC := Lib.hid hc
      clear hc hok e1 e2 hs hq hin hpa hp h0
      obtain ⟨m, hm⟩ : ∃ n, n = past.length := ⟨_, rfl⟩
      rw [← hm]
      clear hm hb hb2
      go_enter Tryz.func24, Tryz.ntmps24
      go_wp2_with ((with_reducible refine wpList_load_rowAs rfl 23 _ rfl (w.heap.size) ?_ 23 #[.int .i64 p.mn, .int .i64 p.mx, .int .i64 p.tg, .int .i64 p.tl, .int .i64 p.wi, .int .i64 p.ho] (0, 0) _ 6 ?_ Tryz.underlying23 rfl (by kernel_rfl) ?_ ?_); exact rfl; exact (by first | (with_reducible exact heap_1_0 _ _) | (with_reducible exact heap_2_0 _ _ _) | (with_reducible exact heap_2_1 _ _ _) | (with_reducible exact heap_3_0 _ _ _ _) | (with_reducible exact heap_3_1 _ _ _ _) | (with_reducible exact heap_3_2 _ _ _ _) | (with_reducible exact heap_4_0 _ _ _ _ _) | (with_reducible exact heap_4_1 _ _ _ _ _) | (with_reducible exact heap_4_2 _ _ _ _ _) | (with_reducible exact heap_4_3 _ _ _ _ _) | (with_reducible exact heap_5_0 _ _ _ _ _ _) | (with_reducible exact heap_5_1 _ _ _ _ _ _) | (with_reducible exact heap_5_2 _ _ _ _ _ _) | (with_reducible exact heap_5_3 _ _ _ _ _ _) | (with_reducible exact heap_5_4 _ _ _ _ _ _) | (with_reducible exact heap_6_0 _ _ _ _ _ _ _) | (with_reducible exact heap_6_1 _ _ _ _ _ _ _) | (with_reducible exact heap_6_2 _ _ _ _ _ _ _) | (with_reducible exact heap_6_3 _ _ _ _ _ _ _) | (with_reducible exact heap_6_4 _ _ _ _ _ _ _) | (with_reducible exact heap_6_5 _ _ _ _ _ _ _) | simp only [heap_alloc_past, heap_alloc_at, World.size_alloc, Nat.add_assoc, Nat.reduceAdd, Nat.lt_add_right_iff_pos, Nat.add_lt_add_iff_left, Nat.reduceLT, Nat.zero_lt_succ, Nat.lt_add_one]); exact rfl)
      (with_reducible refine (HC.out _).mono ?_)
      rintro e w1 ⟨rfl, hb1⟩
      have M1 := Lib.hid ((((Mem.start w).alloc (.cells #[.int .i64 p.mn, .int .i64 p.mx, .int .i64 p.tg, .int .i64 p.tl, .int .i64 p.wi, .int .i64 p.ho] 23)).allocAs (w.heap.size + 1) (.cells #[.int .i64 0, .int .i64 0, .int .i64 0, .int .i64 0, .int .i64 0] 66) (by simp)).call hb1)
      have K1 := Lib.hid (M1.out.heap 1 rfl)
      clear hb1
      go_wp2_with ((with_reducible refine wpList_store_rowAs rfl 66 _ _ rfl ((w.heap.size + 1)) #[.int .i64 0, .int .i64 0, .int .i64 0, .int .i64 0, .int .i64 0] ?_ ?_ 66 #[.int .i64 0, .int .i64 0, .int .i64 0, .int .i64 0, .int .i64 0] 5 ?_ (by kernel_rfl) rfl rfl (by simp [Value.oneCell']) ?_); exact rfl; exact rfl; exact K1.out)
      exact bodyPost_ret (results_row_tmp rfl _ _ (w.heap.size + 1) 66 #[.int .i64 0, .int .i64 0, .int .i64 0, .int .i64 0, .int .i64 0] (0, 0) _ 5 _ rfl rfl ((M1.out.setRow 1 rfl).heap 1 rfl) Tryz.underlying66 rfl advSize rfl) rfl ⟨rfl, (M1.out.setRow 1 rfl).below⟩
    · obtain ⟨e1, e2⟩ := Dec.of_some (past := past) hok h0
      rw [e1] at eo
      rw [e2]
      have hlat := Dec.latest_I64 l h0 hin
      have hld := Dec.load_I64 p l
      have hcin := Samp.cut_In (Win.from (Dec.latest l) p.wi) (Dec.latest l) l hin
      have hcl := Samp.cut_len (Win.from (Dec.latest l) p.wi) (Dec.latest l) l
      have f1 := fun W : World => fun h : Samps W sp l => ref16_latest sp sc l h0 hb W h
      have f2 := ref09_from (Dec.latest l) p.wi hlat hp.2.2.2.2.1
      have f3 := fun W : World => fun h : Samps W sp l => ref09_cut sp sc l (Win.from (Dec.latest l) p.wi) (Dec.latest l) hb W h
      have f4 := fun (s : Option Addr) (c : Nat) (W : World) (h : Samps W s (Samp.cut (Win.from (Dec.latest l) p.wi) (Dec.latest l) l)) => ref16_mean s c _ hcin (by omega) W h
      have f5 := fun W : World => fun h : Advs W q past => ref16_now p q cap past (by omega) W h
      have f6 := ref13_open p hp (Dec.load p l) (Dec.now p past) hld
      have f7 := ref13_bound p (p.open' (Dec.load p l) (Dec.now p past))
      have f8 := fun W : World => fun h : Advs W q past => ref15_of p hp (Dec.latest l) (Dec.wants p l past) hlat q cap past (by omega) W h
      have f9 := ref13_bound p (Dec.held p l past).1
      have fa := ref16_why p (Dec.held p l past).2 (p.open' (Dec.load p l) (Dec.now p past)) (Dec.now p past) (p.bound (Dec.held p l past).1)
      have ef : (Stat.of (Samp.vals (Samp.cut (Win.from (Dec.latest l) p.wi) (Dec.latest l) l))).mean = Dec.load p l := rfl
      have ew : p.bound (p.open' (Dec.load p l) (Dec.now p past)) = Dec.wants p l past := (Pol.raw_open p _ _).symm
      have eh : Adv.held p (Dec.latest l) (Dec.wants p l past) past = Dec.held p l past := rfl
      simp only [ef] at f4
      rw [ew] at f7
      simp only [eh] at f8
      unfold Dec.adv at eo
      obtain ⟨fr, efr⟩ : ∃ x, x = Win.from (Dec.latest l) p.wi := ⟨_, rfl⟩
      simp only [← efr] at f2 f3 f4 hcl
      obtain ⟨cu, ecu⟩ : ∃ x, x = Samp.cut fr (Dec.latest l) l := ⟨_, rfl⟩
      simp only [← ecu] at f3 f4 hcl
      obtain ⟨now, enow⟩ : ∃ x, x = Dec.now p past := ⟨_, rfl⟩
      obtain ⟨tick, etick⟩ : ∃ x, x = Dec.latest l := ⟨_, rfl⟩
      obtain ⟨load, eload⟩ : ∃ x, x = Dec.load p l := ⟨_, rfl⟩
      obtain ⟨want, ewant⟩ : ∃ x, x = Dec.wants p l past := ⟨_, rfl⟩
      obtain ⟨hd, ehd⟩ : ∃ x, x = Dec.held p l past := ⟨_, rfl⟩
      simp only [← enow] at f5 f6 f7 fa eo
      simp only [← etick] at f1 f2 f3 f8 eo
      simp only [← eload] at f4 f6 f7 fa eo hld
      simp only [← ewant] at f7 f8 eo
      simp only [← ehd] at f8 f9 fa eo
      obtain ⟨op, eop⟩ : ∃ x, x = p.open' load now := ⟨_, rfl⟩
      rw [← eop] at f6 f7 fa eo
      obtain ⟨hn, hh⟩ := hd
      simp only at f8 f9 fa eo
      obtain ⟨rp, erp⟩ : ∃ x, x = p.bound hn := ⟨_, rfl⟩
      rw [← erp] at f9 fa eo
      obtain ⟨why, ewhy⟩ : ∃ x, x = Dec.why p hh op now rp := ⟨_, rfl⟩
      rw [← ewhy] at fa eo
      subst eo
      obtain ⟨n, en⟩ : ∃ n, n = l.length := ⟨_, rfl⟩
      obtain ⟨m, em⟩ : ∃ n, n = past.length := ⟨_, rfl⟩
      rw [← en] at h0 hb
      simp only [← en] at f1 f3 ⊢
      simp only [← em] at f5 f8 ⊢
      have HC := Lib.hid hc
      have F1 := Lib.hid f1
      have F2 := Lib.hid f2
      have F3 := Lib.hid f3
      have F4 := Lib.hid f4
      have F5 := Lib.hid f5
      have F6 := Lib.hid f6
      have F7 := Lib.hid f7
      have F8 := Lib.hid f8
      have F9 := Lib.hid f9
      have FA := Lib.hid fa
      have HS := Lib.hid hs
      have HQ := Lib.hid hq
      have d0 : ((n : Int) == 0) = false := beq_eq_false_iff_ne.2 (by omega)
      clear hc f1 f2 f3 f4 f5 f6 f7 f8 f9 fa hs hq hin hpa hp hok e1 e2 hlat hld ew eh ef efr ecu hcin hcl enow etick eload ewant ehd eop erp ewhy en em hb hb2
      go_enter Tryz.func24, Tryz.ntmps24
      go_wp2_with ((with_reducible refine wpList_load_rowAs rfl 23 _ rfl (w.heap.size) ?_ 23 #[.int .i64 p.mn, .int .i64 p.mx, .int .i64 p.tg, .int .i64 p.tl, .int .i64 p.wi, .int .i64 p.ho] (0, 0) _ 6 ?_ Tryz.underlying23 rfl (by kernel_rfl) ?_ ?_); exact rfl; exact (by first | (with_reducible exact heap_1_0 _ _) | (with_reducible exact heap_2_0 _ _ _) | (with_reducible exact heap_2_1 _ _ _) | (with_reducible exact heap_3_0 _ _ _ _) | (with_reducible exact heap_3_1 _ _ _ _) | (with_reducible exact heap_3_2 _ _ _ _) | (with_reducible exact heap_4_0 _ _ _ _ _) | (with_reducible exact heap_4_1 _ _ _ _ _) | (with_reducible exact heap_4_2 _ _ _ _ _) | (with_reducible exact heap_4_3 _ _ _ _ _) | (with_reducible exact heap_5_0 _ _ _ _ _ _) | (with_reducible exact heap_5_1 _ _ _ _ _ _) | (with_reducible exact heap_5_2 _ _ _ _ _ _) | (with_reducible exact heap_5_3 _ _ _ _ _ _) | (with_reducible exact heap_5_4 _ _ _ _ _ _) | (with_reducible exact heap_6_0 _ _ _ _ _ _ _) | (with_reducible exact heap_6_1 _ _ _ _ _ _ _) | (with_reducible exact heap_6_2 _ _ _ _ _ _ _) | (with_reducible exact heap_6_3 _ _ _ _ _ _ _) | (with_reducible exact heap_6_4 _ _ _ _ _ _ _) | (with_reducible exact heap_6_5 _ _ _ _ _ _ _) | simp only [heap_alloc_past, heap_alloc_at, World.size_alloc, Nat.add_assoc, Nat.reduceAdd, Nat.lt_add_right_iff_pos, Nat.add_lt_add_iff_left, Nat.reduceLT, Nat.zero_lt_succ, Nat.lt_add_one]); exact rfl)
      (with_reducible refine (HC.out _).mono ?_)
      rintro e w1 ⟨rfl, hb1⟩
      have M1 := Lib.hid ((((Mem.start w).alloc (.cells #[.int .i64 p.mn, .int .i64 p.mx, .int .i64 p.tg, .int .i64 p.tl, .int .i64 p.wi, .int .i64 p.ho] 23)).allocAs (w.heap.size + 1) (.cells #[.int .i64 0, .int .i64 0, .int .i64 0, .int .i64 0, .int .i64 0] 66) (by simp)).call hb1)
      clear hb1
      go_wp2_with fail
      (with_reducible refine (F1.out _ (HS.out.below M1.out.below)).mono ?_)
      rintro e w2 ⟨rfl, hb2⟩
      have M2 := Lib.hid (M1.out.call hb2)
      have c1 := M2.out.cell 0 4 rfl rfl
      clear hb2 M1
      go_wp2_with ((with_reducible refine (F2.out _).mono ?_); rintro e w3 ⟨rfl, rfl⟩)
      (with_reducible refine (F3.out _ (HS.out.below M2.out.below)).mono ?_)
      rintro e w4 ⟨u, rfl, hO, hb4⟩
      obtain ⟨cq, cc, rfl, _, hcu⟩ := samps_of_owns hO
      have M4 := Lib.hid (M2.out.call hb4)
      have HCU := Lib.hid hcu
      clear hb4 hO hcu c1 M2
      go_wp2_with fail
      (with_reducible refine (F4.out _ _ _ HCU.out).mono ?_)
      rintro e w5 ⟨rfl, hb5⟩
      have M5 := Lib.hid (M4.out.call hb5)
      have K0 := Lib.hid (M5.out.heap 0 rfl)
      clear hb5 M4 HCU
      go_wp2_with ((with_reducible refine wpList_load_rowAs rfl 23 _ rfl (w.heap.size) ?_ 23 #[.int .i64 p.mn, .int .i64 p.mx, .int .i64 p.tg, .int .i64 p.tl, .int .i64 p.wi, .int .i64 p.ho] (0, 0) _ 6 ?_ Tryz.underlying23 rfl (by kernel_rfl) ?_ ?_); exact rfl; exact K0.out; exact rfl)
      (with_reducible refine (F5.out _ (HQ.out.below M5.out.below)).mono ?_)
      rintro e w6 ⟨rfl, hb6⟩
      have M6 := Lib.hid (M5.out.call hb6)
      clear hb6 K0 M5
      have K0 := Lib.hid (M6.out.heap 0 rfl)
      go_wp2_with ((with_reducible refine wpList_load_rowAs rfl 23 _ rfl (w.heap.size) ?_ 23 #[.int .i64 p.mn, .int .i64 p.mx, .int .i64 p.tg, .int .i64 p.tl, .int .i64 p.wi, .int .i64 p.ho] (0, 0) _ 6 ?_ Tryz.underlying23 rfl (by kernel_rfl) ?_ ?_); exact rfl; exact K0.out; exact rfl)
      (with_reducible refine (F6.out _).mono ?_)
      rintro e w7 ⟨rfl, hb7⟩
      have M7 := Lib.hid (M6.out.call hb7)
      clear hb7 K0 M6
      have K0 := Lib.hid (M7.out.heap 0 rfl)
      go_wp2_with ((with_reducible refine wpList_load_rowAs rfl 23 _ rfl (w.heap.size) ?_ 23 #[.int .i64 p.mn, .int .i64 p.mx, .int .i64 p.tg, .int .i64 p.tl, .int .i64 p.wi, .int .i64 p.ho] (0, 0) _ 6 ?_ Tryz.underlying23 rfl (by kernel_rfl) ?_ ?_); exact rfl; exact K0.out; exact rfl)
      (with_reducible refine (F7.out _).mono ?_)
      rintro e w8 ⟨rfl, hb8⟩
      have M8 := Lib.hid (M7.out.call hb8)
      clear hb8 K0 M7
      have K0 := Lib.hid (M8.out.heap 0 rfl)
      go_wp2_with ((with_reducible refine wpList_load_rowAs rfl 23 _ rfl (w.heap.size) ?_ 23 #[.int .i64 p.mn, .int .i64 p.mx, .int .i64 p.tg, .int .i64 p.tl, .int .i64 p.wi, .int .i64 p.ho] (0, 0) _ 6 ?_ Tryz.underlying23 rfl (by kernel_rfl) ?_ ?_); exact rfl; exact K0.out; exact rfl)
      (with_reducible refine (F8.out _ (HQ.out.below M8.out.below)).mono ?_)
      rintro e w9 ⟨rfl, hb9⟩
      have M9 := Lib.hid (M8.out.call hb9)
      clear hb9 K0 M8
      have K0 := Lib.hid (M9.out.heap 0 rfl)
      go_wp2_with ((with_reducible refine wpList_load_rowAs rfl 23 _ rfl (w.heap.size) ?_ 23 #[.int .i64 p.mn, .int .i64 p.mx, .int .i64 p.tg, .int .i64 p.tl, .int .i64 p.wi, .int .i64 p.ho] (0, 0) _ 6 ?_ Tryz.underlying23 rfl (by kernel_rfl) ?_ ?_); exact rfl; exact K0.out; exact rfl)
      (with_reducible refine (F9.out _).mono ?_)
      rintro e wa ⟨rfl, hba⟩
      have MA := Lib.hid (M9.out.call hba)
      clear hba K0 M9
      have K0 := Lib.hid (MA.out.heap 0 rfl)
      go_wp2_with ((with_reducible refine wpList_load_rowAs rfl 23 _ rfl (w.heap.size) ?_ 23 #[.int .i64 p.mn, .int .i64 p.mx, .int .i64 p.tg, .int .i64 p.tl, .int .i64 p.wi, .int .i64 p.ho] (0, 0) _ 6 ?_ Tryz.underlying23 rfl (by kernel_rfl) ?_ ?_); exact rfl; exact K0.out; exact rfl)
      (with_reducible refine (FA.out _).mono ?_)
      rintro e wb ⟨rfl, hbb⟩
      have MB := Lib.hid (MA.out.call hbb)
      clear hbb K0 MA
      have K2 := Lib.hid (MB.out.heap 1 rfl)
      have MD := MB.out.setRow 1 (cs := #[.int .i64 tick, .int .i64 load, .int .i64 want, .int .i64 rp, .int .i64 why]) rfl
      have MD := Lib.hid MD
      go_wp2_with ((with_reducible refine wpList_store_rowAs rfl 66 _ _ rfl ((w.heap.size + 1)) #[.int .i64 tick, .int .i64 load, .int .i64 want, .int .i64 rp, .int .i64 why] ?_ ?_ 66 #[.int .i64 0, .int .i64 0, .int .i64 0, .int .i64 0, .int .i64 0] 5 ?_ (by kernel_rfl) rfl rfl (by simp [Value.oneCell']) ?_); exact rfl; exact rfl; exact K2.out)
      exact bodyPost_ret (results_row_tmp rfl _ _ (w.heap.size + 1) 66 #[.int .i64 tick, .int .i64 load, .int .i64 want, .int .i64 rp, .int .i64 why] (0, 0) _ 5 _ rfl rfl (MD.out.heap 1 rfl) Tryz.underlying66 rfl advSize rfl) rfl ⟨rfl, MD.out.below⟩
end Go.Proofs.YtldhbgefpfmkmaaGreat
