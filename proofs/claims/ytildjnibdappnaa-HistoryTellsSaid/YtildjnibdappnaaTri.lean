/- Layer 44: what a policy would have done, as data; decisions cloned; decisions compared. -/
import Derived.Test.YtildjnibdappnaaAdvRows
import Derived.Test.YtildjnibdappnaaSlice2
import Derived.Test.YtildjnibdappnaaEq2
import Derived.Test.YtildjnibdappnaaStab
import Derived.WalkSpells
namespace Go.Proofs.Ytildjnibdappnaa
open Go.ChangeShapes Go.WideShapes Go.ChangeAt Go.RowKit

theorem Advs.news {w : World} {p : Option Addr} {l : List Adv} (h : Advs w p l) : ∀ ad, p = some ad → ∀ j u, (advVals l)[j]? = some u → w.cell? (ad.add j) = some u := by
  intro ad hp j u hu
  have hj : j < l.length * 5 := by
    have := (List.getElem?_eq_some_iff.1 hu).1
    rwa [advVals_len] at this
  rcases h with h | ⟨b, off, h, _, hc⟩
  · omega
  · rw [hp] at h
    cases h
    have hadd : (⟨b, off, none⟩ : Addr).add j = ⟨b, off + j, none⟩ := by unfold Addr.add; split <;> simp_all
    rw [hadd, hc j hj, ← advVals_get l j hj]
    exact hu
theorem advVals_one : ∀ (l : List Adv), ∀ u ∈ advVals l, u.oneCell' = true
  | [], u, h => by cases h
  | a :: l, u, h => by
    simp only [advVals, List.mem_cons] at h
    rcases h with rfl | rfl | rfl | rfl | rfl | h
    · rfl
    · rfl
    · rfl
    · rfl
    · rfl
    · exact advVals_one l u h
/-- Decisions in a row of their own. -/
theorem advs_alloc (w : World) (l : List Adv) (T : TypeId) (cs : Array Value) (h : cs = (advVals l).toArray) : Advs (w.alloc (.cells cs T)) (some ⟨w.heap.size, 0, none⟩) l := by
  subst h
  refine .inr ⟨w.heap.size, 0, rfl, by simp, fun j hj => ?_⟩
  rw [cell_of_row _ w.heap.size (0 + j) _ T (0, 0) (heap_alloc_at _ _ _ rfl), Nat.zero_add]
  simpa using advVals_get l j hj

/-- Decisions in blocks between A and B. -/
def AdvsIn (A B : Nat) (w : World) (q : Option Addr) (l : List Adv) : Prop := Advs w q l ∧ ∀ ad, q = some ad → A ≤ ad.block ∧ ad.block < B
theorem AdvsIn.below {A B : Nat} {w w' : World} {q : Option Addr} {l : List Adv} (h : AdvsIn A B w q l) (hb : Below w.heap.size w w') : AdvsIn A B w' q l := ⟨h.1.below hb, h.2⟩
theorem AdvsIn.wide {A B A' B' : Nat} {w : World} {q : Option Addr} {l : List Adv} (h : AdvsIn A B w q l) (ha : A' ≤ A) (hb : B ≤ B') : AdvsIn A' B' w q l :=
  ⟨h.1, fun ad had => ⟨Nat.le_trans ha (h.2 ad had).1, Nat.lt_of_lt_of_le (h.2 ad had).2 hb⟩⟩
theorem AdvsIn.same {A B : Nat} {w w' : World} {q : Option Addr} {l : List Adv} (h : AdvsIn A B w q l) (hz : w.heap.size ≤ w'.heap.size) (hk : ∀ k, A ≤ k → k < B → w'.heap[k]? = w.heap[k]?) : AdvsIn A B w' q l := by
  refine ⟨?_, h.2⟩
  rcases h.1 with h0 | ⟨b, off, hp, hb, hc⟩
  · exact .inl h0
  · obtain ⟨h1, h2⟩ := h.2 _ hp
    refine .inr ⟨b, off, hp, Nat.lt_of_lt_of_le hb hz, fun j hj => ?_⟩
    rw [← hc j hj]
    unfold World.cell?
    simp only
    rw [hk b h1 h2]
theorem AdvsIn.setRow {A B : Nat} {w : World} {q : Option Addr} {l : List Adv} (h : AdvsIn A B w q l) (b : Nat) (hb : b < A ∨ B ≤ b) (cs : Array Value) : AdvsIn A B (w.setRow b cs) q l :=
  h.same (below_setRow (Below.refl 0 w) (Nat.zero_le _) cs).size (fun k h1 h2 => setRow_other w b k cs (by omega))
theorem AdvsIn.setCell {A B : Nat} {w : World} {q : Option Addr} {l : List Adv} (h : AdvsIn A B w q l) (b j : Nat) (hb : b < A ∨ B ≤ b) (v : Value) : AdvsIn A B (w.setCell ⟨b, j, none⟩ v) q l :=
  h.same (by simp [World.setCell]) (fun k h1 h2 => Below.heap_setCell _ _ _ _ (by show k ≠ b; omega))

set_option maxRecDepth 100000 in
theorem cloneA (p : Option Addr) (n c : Nat) (l : List Adv) (hn : l.length = n) (hb : n ≤ 100000) (hp : p = none → n = 0 ∧ c = 0) (w : World) (hs : Advs w p l) :
    Calls Try.prog 78 #[.slice p n c] w fun e w' => ∃ q d, e = .returned (.slice q n d) ∧ AdvsIn w.heap.size w'.heap.size w' q l ∧ (q = none → n = 0 ∧ d = 0) ∧ Below w.heap.size w w' := by
  cases p with
  | none =>
    obtain ⟨rfl, rfl⟩ := hp rfl
    have hq : ∀ (w : World), (binOp .eql 22 (.slice none 0 0) (.slice none 0 0)).run Try.prog w = .ok (.bool true) w := fun w => Lib.run_eql_slice_nil w 22 24 none 0 0 0 0 Try.underlying22
    have HS := Lib.hid hs
    clear hs hp
    go_enter Try.func78, Try.ntmps78
    go_wp2
    go_ret
    exact ⟨_, _, rfl, ⟨HS.out, fun _ h => by cases h⟩, by simp, Below.refl _ _⟩
  | some ad =>
    have hq : ∀ (w : World), (binOp .eql 22 (.slice (some ad) n c) (.slice none 0 0)).run Try.prog w = .ok (.bool false) w := fun w => Lib.run_eql_slice_nil w 22 24 (some ad) n c 0 0 Try.underlying22
    have hl := advVals_len l
    rw [hn] at hl
    have HL := Lib.hid hl
    have H1 := Lib.hid (advVals_one l)
    have HC := Lib.hid (hs.below (below1 w (.cells #[] 24))).news
    have O : Hid (Owns (w.alloc (.cells #[] 24)) w.heap.size 5 (.slice (some ⟨w.heap.size, 0, none⟩) 0 0) 0 []) :=
      ⟨rfl, .inr ⟨w.heap.size, 0, rfl, Nat.le_refl _, by simp, Nat.le_refl _, fun j u hu => by simp at hu, fun j hj => by simp at hj⟩⟩
    have HN := Lib.hid hn
    clear hl hs hn hp
    go_enter Try.func78, Try.ntmps78
    go_wp2_with (at_builtin; refine wpList_append_any2 rfl _ _ 22 rfl w.heap.size 24 (.agg #[.int .i64 0, .int .i64 0, .int .i64 0, .int .i64 0, .int .i64 0]) 5 40 Try.underlying22 advInfo rfl (by decide) _ _ _ rfl O.out _ _ _ (advVals l) rfl (by rw [HL.out]) (fun h => by cases h) HC.out H1.out (by unfold maxLen; omega) (by omega) (by simp) ?_; intro u1 x1 ha1 hg1 hw1)
    rw [Nat.zero_add, List.nil_append, ← HN.out] at ha1
    obtain ⟨q, d, rfl, hd, hq1⟩ := advs_of_owns ha1
    rw [HN.out]
    have HQ1 := Lib.hid hq1
    have HA := Lib.hid ha1
    have HG := Lib.hid hg1
    clear hq1 ha1 hg1 hd
    go_ret
    refine ⟨_, _, rfl, ⟨HQ1.out, fun ad h => ?_⟩, fun h => ?_, (below1 w _).grown HG.out (by simp) (fun k hk => Nat.le_of_eq (Option.some.inj (show some w.heap.size = some k from hk)))⟩
    · subst h
      rcases HA.out.2 with ⟨h, h2⟩ | ⟨g, cap, h, h3, h4, _⟩
      · cases h
      · injection h with h5
        injection h5 with h5
        subst h5
        exact ⟨h3, h4⟩
    subst h
    rcases HA.out.2 with ⟨h, h2⟩ | ⟨g, cap, h, _⟩
    · injection h with h3 h4 h5
      rw [HN.out] at h2
      exact ⟨h2, h5⟩
    · cases h

theorem Advs.at {w : World} {b off : Nat} {l : List Adv} (h : Advs w (some ⟨b, off, none⟩) l) (k : Nat) (hk : k < l.length) :
    w.cell? ⟨b, off + k * 5, none⟩ = some (.int .i64 (l[k]?.getD default).tick) ∧ w.cell? ⟨b, off + k * 5 + 1, none⟩ = some (.int .i64 (l[k]?.getD default).load) ∧
      w.cell? ⟨b, off + k * 5 + 2, none⟩ = some (.int .i64 (l[k]?.getD default).want) ∧ w.cell? ⟨b, off + k * 5 + 3, none⟩ = some (.int .i64 (l[k]?.getD default).repl) ∧ w.cell? ⟨b, off + k * 5 + 4, none⟩ = some (.int .i64 (l[k]?.getD default).why) := by
  obtain ⟨b', off', e, _, h2⟩ := h.cells k hk
  simp only [Option.some.injEq, Addr.mk.injEq] at e
  obtain ⟨rfl, rfl, _⟩ := e
  exact h2

set_option maxHeartbeats 1000000 in
set_option maxRecDepth 100000 in
/-- Two lists that are one: alike. -/
theorem ref14_same (p q : Option Addr) (n c d : Nat) (l : List Adv) (hn : l.length = n) (hb : n ≤ 9223372036854775807) (w : World) (hs : Advs w p l) (ht : Advs w q l) :
    Calls Try.prog 20 #[.slice p n c, .slice q n d] w fun e w' => e = .returned (.bool true) ∧ Below w.heap.size w w' := by
  by_cases h0 : n = 0
  · subst h0
    clear hs ht
    go_enter Try.func20, Try.ntmps20
    go_wp2
    go_loopw [5] (fun i wr => i = .int .i64 0 ∧ Below w.heap.size w wr) (fun i _ => 0)
    case atStart => exact ⟨rfl, Below.refl _ _⟩
    case round =>
      obtain ⟨rfl, hB⟩ := hrel
      have HB := Lib.hid hB
      clear hB
      go_wp2
      go_ret
      exact ⟨rfl, HB.out⟩
  obtain ⟨b, off, rfl, hbw, _⟩ := hs.cells 0 (by omega)
  obtain ⟨b2, off2, rfl, hbw2, _⟩ := ht.cells 0 (by omega)
  have HS := Lib.hid hs
  have HT := Lib.hid ht
  have HN := Lib.hid hn
  have hst := stab_and (stab_below (B := w.heap.size) (w0 := w) (Nat.le_refl _)) (stab_pure True)
  clear hs ht hn hbw hbw2
  go_enter Try.func20, Try.ntmps20
  go_wp2
  go_loopw [5] (fun i wr => ∃ k : Nat, k ≤ n ∧ i = .int .i64 k ∧ Below w.heap.size w wr) (fun i _ => n - (intOf i).toNat)
  case atStart => exact ⟨0, by omega, rfl, Below.refl _ _⟩
  case round =>
    obtain ⟨k, hk, rfl, hB⟩ := hrel
    have HB := Lib.hid hB
    clear hB
    by_cases hlt : k < n
    · have A1 := Lib.hid (fun W : World => fun h : Below w.heap.size w W => (HS.out.below h).at k (by have := HN.out; omega))
      have A2 := Lib.hid (fun W : World => fun h : Below w.heap.size w W => (HT.out.below h).at k (by have := HN.out; omega))
      obtain ⟨a, ea⟩ : ∃ a, a = l[k]?.getD default := ⟨_, rfl⟩
      simp only [← ea] at A1 A2
      clear ea
      obtain ⟨tick, load, want, repl, why⟩ := a
      simp only at A1 A2
      go_wp2_with fail
      refine wp_region_E mixed [] hst ⟨below_drewN HB.out 1, trivial⟩ ?_
      refine wpAnyE_take 0 rfl (by kernel_rfl) (by kernel_rfl) (by kernel_rfl) (fun _ _ _ h => h) hst (EffB.pure rfl (fun _ => rfl)) (.inr (EffB.pure rfl (fun _ => rfl))) ?_
      simp only [act_norm]
      refine wpAnyE_take 1 rfl (by kernel_rfl) (by kernel_rfl) (by kernel_rfl) (fun _ _ _ h => h) hst (EffB.pure rfl (fun _ => rfl)) (.inr (EffB.pure rfl (fun _ => rfl))) ?_
      simp only [act_norm]
      refine wpAnyE_take 2 (v := .pointer (some ⟨b, off + k * 5, none⟩)) rfl (by kernel_rfl) (by kernel_rfl) (by kernel_rfl) (fun _ _ _ h => h) hst (EffB.run rfl rfl (fun wd hS => ?_)) (.inl (by kernel_rfl)) ?_
      · go_wp2; exact ⟨rfl, Below.refl _ _⟩
      simp only [act_norm]
      refine wpAnyE_take 3 (v := .agg #[.int .i64 tick, .int .i64 load, .int .i64 want, .int .i64 repl, .int .i64 why]) rfl (by kernel_rfl) (by kernel_rfl) (by kernel_rfl) (fun _ _ _ h => h) hst (EffB.run rfl rfl (fun wd hS => ?_)) (.inl (by kernel_rfl)) ?_
      · obtain ⟨c0, c1, c2, c3, c4⟩ := A1.out wd hS.1; go_wp2; exact ⟨rfl, Below.refl _ _⟩
      simp only [act_norm]
      refine wpAnyE_take 4 rfl (by kernel_rfl) (by kernel_rfl) (by kernel_rfl) (fun _ _ _ h => h) hst (EffB.pure rfl (fun _ => rfl)) (.inr (EffB.pure rfl (fun _ => rfl))) ?_
      simp only [act_norm]
      refine wpAnyE_take 5 rfl (by kernel_rfl) (by kernel_rfl) (by kernel_rfl) (fun _ _ _ h => h) hst (EffB.pure rfl (fun _ => rfl)) (.inr (EffB.pure rfl (fun _ => rfl))) ?_
      simp only [act_norm]
      refine wpAnyE_take 6 (v := .pointer (some ⟨b2, off2 + k * 5, none⟩)) rfl (by kernel_rfl) (by kernel_rfl) (by kernel_rfl) (fun _ _ _ h => h) hst (EffB.run rfl rfl (fun wd hS => ?_)) (.inl (by kernel_rfl)) ?_
      · go_wp2; exact ⟨rfl, Below.refl _ _⟩
      simp only [act_norm]
      refine wpAnyE_take 7 (v := .agg #[.int .i64 tick, .int .i64 load, .int .i64 want, .int .i64 repl, .int .i64 why]) rfl (by kernel_rfl) (by kernel_rfl) (by kernel_rfl) (fun _ _ _ h => h) hst (EffB.run rfl rfl (fun wd hS => ?_)) (.inl (by kernel_rfl)) ?_
      · obtain ⟨c0, c1, c2, c3, c4⟩ := A2.out wd hS.1; go_wp2; exact ⟨rfl, Below.refl _ _⟩
      simp only [act_norm]
      refine wpAnyE_take 8 (v := .bool false) rfl (by kernel_rfl) (by kernel_rfl) (by kernel_rfl) (fun _ _ _ h => h) hst (EffB.run rfl rfl (fun wd hS => ?_)) (.inl (by kernel_rfl)) ?_
      · exact wp_neq_agg _ _ _ _ rfl _ _ rfl rfl true (by kernel_rfl) (adv_equal_yes ⟨tick, load, want, repl, why⟩ _) ⟨rfl, Below.refl _ _⟩
      simp only [act_norm]
      refine wpAnyE_done (by kernel_rfl) (fun wd hS => ?_) _
      have HB2 := Lib.hid hS.1
      clear hS HB
      go_wp2
      exact ⟨⟨k + 1, by omega, by go_num, HB2.out⟩, by simp [intOf]; omega⟩
    · obtain rfl : k = n := by omega
      go_wp2
      go_ret
      exact ⟨rfl, HB.out⟩
end Go.Proofs.Ytildjnibdappnaa
