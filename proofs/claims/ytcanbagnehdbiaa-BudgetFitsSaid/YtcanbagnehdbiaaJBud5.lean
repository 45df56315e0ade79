/- Layer 51: what is shared is fair; what is lacking. -/
import Derived.Test.YtcanbagnehdbiaaJBud3
namespace Go.Proofs.Ytcanbagnehdbiaa
open Go.ChangeShapes Go.WideShapes Go.ChangeAt Go.RowKit

def Bud.tot (f : Nat → Int) : Nat → Int
  | 0 => 0
  | k + 1 => Bud.tot f k + f k
theorem Bud.tot_give {h : List Int} {j : Nat} (hj : j < h.length) : ∀ k, Bud.tot (Bud.hv (Bud.give h j)) k = Bud.tot (Bud.hv h) k + (if j < k then 1 else 0)
  | 0 => by simp [Bud.tot]
  | k + 1 => by
    have ih := Bud.tot_give hj k
    unfold Bud.tot
    rw [ih, Bud.give_hv hj]
    by_cases e : k = j
    · subst e; rw [if_pos rfl, if_neg (by omega), if_pos (by omega)]; omega
    · rw [if_neg e]
      by_cases g : j < k
      · rw [if_pos g, if_pos (by omega)]; omega
      · rw [if_neg g, if_neg (by omega)]; omega
theorem Bud.tot_le {f : Nat → Int} {n : Nat} (h : ∀ j, j < n → 0 ≤ f j) : ∀ d k, k + d = n → 0 ≤ Bud.tot f k ∧ Bud.tot f k ≤ Bud.tot f n := by
  have h0 : ∀ k, k ≤ n → 0 ≤ Bud.tot f k := by
    intro k
    induction k with
    | zero => intro _; exact Int.le_refl _
    | succ k ih => intro hk; have := ih (by omega); have := h k (by omega); show 0 ≤ Bud.tot f k + f k; omega
  intro d
  induction d with
  | zero => intro k hk; have : k = n := by omega
            subst this; exact ⟨h0 k (Nat.le_refl _), Int.le_refl _⟩
  | succ d ih =>
    intro k hk
    have h1 := ih (k + 1) (by omega)
    have h2 := h k (by omega)
    have h3 : Bud.tot f (k + 1) = Bud.tot f k + f k := rfl
    exact ⟨h0 k (by omega), by omega⟩

/-- While it is shared. -/
structure Bud.Inv (l : List Samp) (h : List Int) : Prop where
  ok : Bud.Ok l h
  least : ∀ j, j < l.length → (l[j]?.getD default).tick ≤ Bud.hv h j
  fair : ∀ i k, i < l.length → k < l.length → (l[k]?.getD default).tick < Bud.hv h k → Bud.wt l i - Bud.hv h i ≤ Bud.wt l k - Bud.hv h k + 1
theorem Bud.Inv.give {l : List Samp} {h : List Int} (I : Bud.Inv l h) {j : Nat} (hj : j < l.length) (hl : 0 < Bud.wt l j - Bud.hv h j) (hm : ∀ i, i < l.length → Bud.wt l i - Bud.hv h i ≤ Bud.wt l j - Bud.hv h j) : Bud.Inv l (Bud.give h j) := by
  have hjl : j < h.length := by rw [I.ok.1]; exact hj
  refine ⟨Bud.ok_give I.ok hj hl, fun i hi => ?_, fun i k hi hk hg => ?_⟩
  · have := I.least i hi
    rw [Bud.give_hv hjl]
    split
    · rename_i e; subst e; omega
    · exact this
  · rw [Bud.give_hv hjl] at hg ⊢
    rw [Bud.give_hv hjl]
    have hmi := hm i hi
    by_cases ek : k = j
    · subst ek
      rw [if_pos rfl]
      by_cases ei : i = k
      · subst ei; rw [if_pos rfl]; omega
      · rw [if_neg ei]; omega
    · rw [if_neg ek] at hg ⊢
      have := I.fair i k hi hk hg
      by_cases ei : i = j
      · subst ei; rw [if_pos rfl]; omega
      · rw [if_neg ei]; exact this
theorem Bud.run_inv (l : List Samp) : ∀ k h, Bud.Inv l h → Bud.Inv l (Bud.run l k h) ∧ Bud.tot (Bud.hv (Bud.run l k h)) l.length ≤ Bud.tot (Bud.hv h) l.length + k ∧ (Bud.tot (Bud.hv (Bud.run l k h)) l.length = Bud.tot (Bud.hv h) l.length + k ∨ ∀ j, j < l.length → Bud.hv (Bud.run l k h) j = Bud.wt l j)
  | 0, h, I => ⟨I, by show Bud.tot (Bud.hv h) _ ≤ _; omega, .inl (by show Bud.tot (Bud.hv h) _ = _; omega)⟩
  | k + 1, h, I => by
    unfold Bud.run
    rcases Bud.who_spec (l := l) (h := h) with ⟨hw, hz⟩ | ⟨j, hj, hw, hlack, hm⟩
    · rw [if_pos (by omega)]
      refine ⟨I, by omega, .inr fun j hj => ?_⟩
      have := hz j hj
      have := (I.ok.2 j hj).2.1
      omega
    · rw [if_neg (by omega), hw, Int.toNat_natCast]
      obtain ⟨a, b, c⟩ := Bud.run_inv l k (Bud.give h j) (I.give hj hlack hm)
      have ht := Bud.tot_give (h := h) (j := j) (by rw [I.ok.1]; exact hj) l.length
      rw [if_pos hj] at ht
      refine ⟨a, by omega, ?_⟩
      rcases c with c | c
      · left; omega
      · exact .inr c
theorem Bud.inv_mins {total : Int} {l : List Samp} (h : Bud.check total l = 0) (hl : ∀ a ∈ l, a.In) : Bud.Inv l (Bud.mins l) :=
  ⟨Bud.ok_mins h hl, fun j hj => by rw [Bud.hv_mins l j hj]; exact Int.le_refl _, fun i k hi hk hg => by rw [Bud.hv_mins l k hk] at hg; omega⟩
/-- What everybody wants, together, as far as it can be told. -/
def Bud.alls (l : List Samp) : Nat → Int
  | 0 => 0
  | k + 1 => Sat.clamp (Bud.alls l k + Bud.wt l k)
def Bud.lacks (l : List Samp) (h : List Int) : Nat → Int
  | 0 => 0
  | k + 1 => Sat.clamp (Bud.lacks l h k + (Bud.wt l k - Bud.hv h k))
theorem Bud.alls_I64 (l : List Samp) : ∀ k, I64 (Bud.alls l k)
  | 0 => by unfold Bud.alls I64; omega
  | k + 1 => Sat.clamp_I64 _
theorem Bud.lacks_I64 (l : List Samp) (h : List Int) : ∀ k, I64 (Bud.lacks l h k)
  | 0 => by unfold Bud.lacks I64; omega
  | k + 1 => Sat.clamp_I64 _
/-- All that there is, or all that is wanted. -/
theorem Bud.share_all {total : Int} {l : List Samp} (h : Bud.check total l = 0) (hl : ∀ a ∈ l, a.In) :
    Bud.Inv l (Bud.share total l) ∧ Bud.tot (Bud.hv (Bud.share total l)) l.length = min total (Bud.alls l l.length) ∧ (∀ k, k ≤ l.length → 0 ≤ Bud.tot (Bud.hv (Bud.share total l)) k ∧ Bud.tot (Bud.hv (Bud.share total l)) k ≤ 4096) := by
  obtain ⟨t1, t2, _, _, _⟩ := Bud.check_ok h
  obtain ⟨hs1, hs2⟩ := Bud.sums h
  have hm : ∀ k, k ≤ l.length → Bud.tot (Bud.hv (Bud.mins l)) k = total - Bud.left total l k := by
    intro k
    induction k with
    | zero => intro _; show (0 : Int) = total - (total - 0); omega
    | succ k ih =>
      intro hk
      have := ih (by omega)
      have h2 := hs2 k (by omega)
      show Bud.tot (Bud.hv (Bud.mins l)) k + Bud.hv (Bud.mins l) k = _
      rw [Bud.hv_mins l k (by omega)]
      omega
  have hln := hm l.length (Nat.le_refl _)
  have hl0 : 0 ≤ Bud.left total l l.length := by have := hs1 l.length (Nat.le_refl _); unfold Bud.left; omega
  obtain ⟨a, b, c⟩ := Bud.run_inv l (Bud.left total l l.length).toNat (Bud.mins l) (Bud.inv_mins h hl)
  have e : Bud.run l (Bud.left total l l.length).toNat (Bud.mins l) = Bud.share total l := rfl
  rw [e] at a b c
  generalize Bud.share total l = S at a b c
  have hn0 : ∀ j, j < l.length → 0 ≤ Bud.hv S j := fun j hj => (a.ok.2 j hj).1
  have hle := Bud.tot_le hn0
  have hbd : ∀ k, k ≤ l.length → 0 ≤ Bud.tot (Bud.hv S) k ∧ Bud.tot (Bud.hv S) k ≤ 4096 := fun k hk => by have := hle (l.length - k) k (by omega); omega
  refine ⟨a, ?_, hbd⟩
  have hge : ∀ k, k ≤ l.length → Bud.tot (Bud.hv S) k ≤ Bud.alls l k := by
    intro k
    induction k with
    | zero => intro _; exact Int.le_refl _
    | succ k ih =>
      intro hk
      have h1 := ih (by omega)
      have h2 := (a.ok.2 k (by omega)).2.1
      have h3 := hbd (k + 1) hk
      have h4 : Bud.tot (Bud.hv S) (k + 1) = Bud.tot (Bud.hv S) k + Bud.hv S k := rfl
      show _ ≤ Sat.clamp (Bud.alls l k + Bud.wt l k)
      unfold Sat.clamp
      split
      · omega
      · split <;> omega
  have hg := hge l.length (Nat.le_refl _)
  rcases c with c | c
  · omega
  · have heq : ∀ k, k ≤ l.length → Bud.alls l k = Bud.tot (Bud.hv S) k := by
      intro k
      induction k with
      | zero => intro _; rfl
      | succ k ih =>
        intro hk
        have h1 := ih (by omega)
        have h2 := c k (by omega)
        have h3 := hbd (k + 1) hk
        have h4 : Bud.tot (Bud.hv S) (k + 1) = Bud.tot (Bud.hv S) k + Bud.hv S k := rfl
        show Sat.clamp (Bud.alls l k + Bud.wt l k) = _
        rw [h1, ← h2, ← h4]
        exact Sat.clamp_of (by unfold I64; omega)
    have := heq l.length (Nat.le_refl _)
    omega

set_option maxHeartbeats 2000000 in
set_option maxRecDepth 100000 in
theorem budget_lacks (q : Option Addr) (c : Nat) (l : List Samp) (p : Option Addr) (d : Nat) (h : List Int) (hok : Bud.Ok l h) (hb : l.length ≤ 100) (w : World) (hs : Samps w q l) (hh : Ints .i64 w p h) :
    Calls Try.prog 28 #[.slice q l.length c, .slice p l.length d] w fun e w' => e = .returned (.int .i64 (Bud.lacks l h l.length)) ∧ Below w.heap.size w w' := by
  have HS := Lib.hid hs
  have HH := Lib.hid hh
  have HOK := Lib.hid hok
  have HZ : Hid (Bud.lacks l h 0 = 0) := rfl
  have HN := Lib.hid (fun k => show Bud.lacks l h (k + 1) = Sat.clamp (Bud.lacks l h k + (Bud.wt l k - Bud.hv h k)) from rfl)
  have HI := Lib.hid (Bud.lacks_I64 l h)
  obtain ⟨f, ef⟩ : ∃ f, f = Bud.lacks l h := ⟨_, rfl⟩
  rw [← ef] at HZ HN HI ⊢
  obtain ⟨n, en⟩ : ∃ n, n = l.length := ⟨_, rfl⟩
  have EN := Lib.hid en
  rw [← en] at hb ⊢
  clear hs hh hok ef en
  go_enter Try.func28, Try.ntmps28
  go_wp2
  go_loopw [5, 12] (fun s i wr => ∃ k : Nat, k ≤ n ∧ i = .int .i64 (k : Nat) ∧ s = .int .i64 (f k) ∧ Below w.heap.size w wr) (fun _ i _ => n - (intOf i).toNat)
  case atStart => exact ⟨0, by omega, rfl, by rw [HZ.out], Below.refl _ _⟩
  case round =>
    obtain ⟨k, hk, rfl, rfl, hB⟩ := hrel
    by_cases hlt : k < n
    · have hkl : k < l.length := by have := EN.out; omega
      obtain ⟨bq, off, rfl, hbw, _⟩ := HS.out.cells k hkl
      obtain ⟨c0, c1⟩ := HS.out.bc k hkl wr hB
      obtain ⟨o1, o2, o3⟩ := HOK.out.2 k hkl
      obtain ⟨bh, oh, rfl, hbh, hch⟩ := Sl.pos HH.out (by have := HOK.out.1; omega)
      have ch := hch k (by have := HOK.out.1; omega)
      rw [← hB.cell (p := ⟨bh, _, none⟩) hbh] at ch
      have hn := HN.out k
      have hi := HI.out k
      unfold Bud.wt at hn o2 o3
      unfold Bud.hv at hn o1 o2
      obtain ⟨x1, ex⟩ : ∃ x, x = (l[k]?.getD default).val := ⟨_, rfl⟩
      rw [← ex] at c1 hn o2 o3
      obtain ⟨y, ey⟩ : ∃ y, y = h[k]?.getD 0 := ⟨_, rfl⟩
      rw [← ey] at ch hn o1 o2
      obtain ⟨s, es⟩ : ∃ s, s = f k := ⟨_, rfl⟩
      rw [← es] at hn hi ⊢
      have A1 := sat_sub x1 y (by unfold I64; omega) (by unfold I64; omega)
      rw [Sat.clamp_of (by unfold I64; omega : I64 (x1 - y))] at A1
      obtain ⟨g, eg⟩ : ∃ g, g = x1 - y := ⟨_, rfl⟩
      rw [← eg] at A1 hn
      have A2 := Lib.hid (sat_add s g hi (by unfold I64; omega))
      have B1 := Lib.hid A1
      have HBB := Lib.hid hB
      have HC1 : Hid (∀ W : World, Below w.heap.size w W → W.cell? ⟨bq, off + k * 2 + 1, none⟩ = some (.int .i64 x1)) := fun W hW => by rw [ex]; exact (HS.out.bc k hkl W hW).2
      have HC2 : Hid (∀ W : World, Below w.heap.size w W → W.cell? ⟨bh, oh + k, none⟩ = some (.int .i64 y)) := fun W hW => (hW.cell (p := ⟨bh, _, none⟩) hbh).trans (by rw [ey]; exact hch k (by have := HOK.out.1; omega))
      have HN2 := Lib.hid hn
      have HI2 := Lib.hid hi
      have hkn : (k : Int) < n := by omega
      have hk0 : (0 : Int) ≤ k := by omega
      have EG := Lib.hid eg
      obtain ⟨v, ev⟩ : ∃ v, v = Sat.clamp (s + g) := ⟨_, rfl⟩
      have EV := Lib.hid ev
      rw [← ev] at HN2
      have B2 : Hid (∀ W : World, Calls Try.prog 73 #[.int .i64 s, .int .i64 g] W fun e w' => e = .returned (.int .i64 v) ∧ W = w') := by rw [ev]; exact A2.out
      clear hB ex ey es hn hi A1 A2 eg ev hch hkl c0
      by_cases hc : y < x1
      · have e0 : decide (y < x1) = true := decide_eq_true hc
        go_wp2_with fail
        go_quiet (fail)
        go_wp2_with fail
        have hst := stab_and (stab_below (B := w.heap.size) (w0 := w) (Nat.le_refl _)) (stab_pure True)
        refine wp_region_E mixed [] hst ⟨below_drewN (below_drewN HBB.out _) 1, trivial⟩ ?_
        refine wpAnyE_take 0 rfl (by kernel_rfl) (by kernel_rfl) (by kernel_rfl) (fun _ _ _ h => h) hst (EffB.pure rfl (fun _ => rfl)) (.inr (EffB.pure rfl (fun _ => rfl))) ?_
        simp only [act_norm]
        refine wpAnyE_take 1 rfl (by kernel_rfl) (by kernel_rfl) (by kernel_rfl) (fun _ _ _ h => h) hst (EffB.pure rfl (fun _ => rfl)) (.inr (EffB.pure rfl (fun _ => rfl))) ?_
        simp only [act_norm]
        refine wpAnyE_take 2 rfl (by kernel_rfl) (by kernel_rfl) (by kernel_rfl) (fun _ _ _ h => h) hst (EffB.pure rfl (fun _ => rfl)) (.inr (EffB.pure rfl (fun _ => rfl))) ?_
        simp only [act_norm]
        refine wpAnyE_take 3 (v := .pointer (some ⟨bq, off + k * 2, none⟩)) rfl (by kernel_rfl) (by kernel_rfl) (by kernel_rfl) (fun _ _ _ h => h) hst (EffB.run rfl rfl (fun wd hS => ?_)) (.inr (EffB.run rfl rfl (fun wd hS => ?_))) ?_
        · (go_wp2; exact ⟨rfl, Below.refl _ _⟩)
        · (go_wp2; exact ⟨rfl, Below.refl _ _⟩)
        simp only [act_norm]
        refine wpAnyE_take 4 (v := .pointer (some ⟨bq, off + k * 2 + 1, none⟩)) rfl (by kernel_rfl) (by kernel_rfl) (by kernel_rfl) (fun _ _ _ h => h) hst (EffB.run rfl rfl (fun wd hS => ?_)) (.inr (EffB.run rfl rfl (fun wd hS => ?_))) ?_
        · (go_wp2; exact ⟨rfl, Below.refl _ _⟩)
        · (go_wp2; exact ⟨rfl, Below.refl _ _⟩)
        simp only [act_norm]
        refine wpAnyE_take 5 (v := .int .i64 x1) rfl (by kernel_rfl) (by kernel_rfl) (by kernel_rfl) (fun _ _ _ h => h) hst (EffB.run rfl rfl (fun wd hS => ?_)) (.inl (by kernel_rfl)) ?_
        · have c9 := HC1.out wd hS.1; go_wp2; exact ⟨rfl, Below.refl _ _⟩
        simp only [act_norm]
        refine wpAnyE_take 6 rfl (by kernel_rfl) (by kernel_rfl) (by kernel_rfl) (fun _ _ _ h => h) hst (EffB.pure rfl (fun _ => rfl)) (.inr (EffB.pure rfl (fun _ => rfl))) ?_
        simp only [act_norm]
        refine wpAnyE_take 7 rfl (by kernel_rfl) (by kernel_rfl) (by kernel_rfl) (fun _ _ _ h => h) hst (EffB.pure rfl (fun _ => rfl)) (.inr (EffB.pure rfl (fun _ => rfl))) ?_
        simp only [act_norm]
        refine wpAnyE_take 8 (v := .pointer (some ⟨bh, oh + k, none⟩)) rfl (by kernel_rfl) (by kernel_rfl) (by kernel_rfl) (fun _ _ _ h => h) hst (EffB.run rfl rfl (fun wd hS => ?_)) (.inr (EffB.run rfl rfl (fun wd hS => ?_))) ?_
        · (go_wp2; exact ⟨rfl, Below.refl _ _⟩)
        · (go_wp2; exact ⟨rfl, Below.refl _ _⟩)
        simp only [act_norm]
        refine wpAnyE_take 9 (v := .int .i64 y) rfl (by kernel_rfl) (by kernel_rfl) (by kernel_rfl) (fun _ _ _ h => h) hst (EffB.run rfl rfl (fun wd hS => ?_)) (.inl (by kernel_rfl)) ?_
        · have c9 := HC2.out wd hS.1; go_wp2; exact ⟨rfl, Below.refl _ _⟩
        simp only [act_norm]
        refine wpAnyE_take 10 (v := .int .i64 g) rfl (by kernel_rfl) (by kernel_rfl) (by kernel_rfl) (fun _ _ _ h => h) hst (EffB.run rfl rfl (fun wd hS => ?_)) (.inl (by kernel_rfl)) ?_
        · (go_wp2_with fail; (with_reducible refine (B1.out wd).mono ?_); rintro e w'' ⟨rfl, rfl⟩; exact ⟨rfl, Below.refl _ _⟩)
        simp only [act_norm]
        refine wpAnyE_take 11 (v := .int .i64 v) rfl (by kernel_rfl) (by kernel_rfl) (by kernel_rfl) (fun _ _ _ h => h) hst (EffB.run rfl rfl (fun wd hS => ?_)) (.inl (by kernel_rfl)) ?_
        · (go_wp2_with fail; (with_reducible refine (B2.out wd).mono ?_); rintro e w'' ⟨rfl, rfl⟩; exact ⟨rfl, Below.refl _ _⟩)
        simp only [act_norm]
        refine wpAnyE_take 12 rfl (by kernel_rfl) (by kernel_rfl) (by kernel_rfl) (fun _ _ _ h => h) hst (EffB.pure rfl (fun _ => rfl)) (.inr (EffB.pure rfl (fun _ => rfl))) ?_
        simp only [act_norm]
        refine wpAnyE_done (by kernel_rfl) (fun wd hS => ?_) _
        have HBF := Lib.hid hS.1
        clear hS hst
        go_wp2
        exact ⟨⟨k + 1, by omega, by go_num, by rw [HN2.out], HBF.out⟩, by simp [intOf]; omega⟩
      · have e0 : decide (y < x1) = false := decide_eq_false hc
        have hvs : v = s := by
          have := EV.out
          rw [show s + g = s by have := EG.out; omega, Sat.clamp_of HI2.out] at this
          exact this
        have HVS := Lib.hid hvs
        clear hvs
        go_wp2_with fail
        go_quiet (fail)
        go_wp2
        exact ⟨⟨k + 1, by omega, by go_num, by rw [HN2.out, HVS.out], below_drewN HBB.out _⟩, by simp [intOf]; omega⟩
    · obtain rfl : k = n := by omega
      have BF := Lib.hid hB
      clear hB
      go_wp2
      go_ret
      exact ⟨rfl, BF.out⟩
end Go.Proofs.Ytcanbagnehdbiaa
