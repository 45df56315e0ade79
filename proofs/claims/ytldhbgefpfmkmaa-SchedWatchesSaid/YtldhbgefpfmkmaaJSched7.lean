/- Layer 27: toys as tasks; the reference's next one, and how many are open. -/
import Derived.Test.YtldhbgefpfmkmaaJSched6
import Derived.Deep.CutRange
namespace Go.Proofs.Ytldhbgefpfmkmaa
open Go.ChangeShapes Go.WideShapes Go.ChangeAt Go.RowKit

theorem taskInfo : (Try.prog.info? 165).map (fun i => (i.zero, i.size, i.bytes)) = some (some .nilIface, 1, 16) := by kernel_rfl
structure Mk (w wr : World) (k : Nat) (u : Value) (b : Nat → Nat) (T : Nat → Toy) : Prop where
  below : Below w.heap.size w wr
  own : Owns wr (w.heap.size + 1) 1 u k ((List.range k).map (fun i => Tk.val (some (b i))))
  clock : wr.heap[w.heap.size]? = some (.cells #[.int .i64 0] 159 (0, 0))
  toy : ∀ i, i < k → wr.heap[b i]? = some (Toy.row (T i) w.heap.size)
  lo : ∀ i, i < k → w.heap.size + 1 ≤ b i
  inc : ∀ i j, i < j → j < k → b i < b j
  off : ∀ i, i < k → u.ownBlock ≠ some (b i)
theorem Mk.tasks {w wr : World} {k cap : Nat} {p : Option Addr} {b : Nat → Nat} {T : Nat → Toy} (h : Mk w wr k (.slice p k cap) b T) : Tasks wr p k (fun i => some (b i)) T w.heap.size 0 ∧ (∀ x, Tk.of k (fun i => some (b i)) w.heap.size x → w.heap.size ≤ x) ∧ ∀ ad, p = some ad → ad.block < wr.heap.size := by
  obtain ⟨p', cap', e, _, _, hsl, _⟩ := h.own.sl
  simp only [Value.slice.injEq] at e
  obtain ⟨rfl, _, _⟩ := e
  have hown : ∀ ad, p = some ad → (Value.slice p k cap).ownBlock = some ad.block := fun ad had => by subst had; rfl
  refine ⟨⟨?_, fun i b' hi e => ?_, h.clock, fun i j b' hi hj e1 e2 => ?_, fun i b' hi e => ?_, fun ad had hc => ?_, fun i hi e => by cases e⟩, ?_, fun ad had => (h.own.lt _ (hown ad had)).2⟩
  · rcases hsl with h0 | ⟨b2, off, e2, hb, hc⟩
    · exact .inl h0
    · refine .inr ⟨b2, off, e2, hb, fun j hj => ?_⟩
      rw [hc j hj]
      have hj2 : j < k := by omega
      simp [hj2]
  · cases e; exact h.toy i hi
  · cases e1
    have e3 : b j = b i := Option.some.inj e2
    rcases Nat.lt_trichotomy i j with g | g | g
    · have := h.inc i j g hj; omega
    · exact g
    · have := h.inc j i g hi; omega
  · cases e
    exact ⟨by have := h.lo i hi; omega, fun ad had e => h.off i hi (by rw [hown ad had, e])⟩
  · have := (h.own.lt _ (hown ad had)).1; omega
  · rintro x (rfl | ⟨i, hi, e⟩)
    · exact Nat.le_refl _
    · cases e; have := h.lo i hi; omega

set_option maxHeartbeats 2000000 in
set_option maxRecDepth 100000 in
theorem law27_tasks (q : Option Addr) (n cap : Nat) (l : List Toy) (en : l.length = n) (hb : n ≤ 1000) (w : World) (hs : Toys w q l) :
    Calls Try.prog 38 #[.slice q n cap] w fun e w' => ∃ p c b, e = .returned (.tuple #[.slice p n c, .pointer (some ⟨w.heap.size, 0, none⟩)]) ∧ Mk w w' n (.slice p n c) b (fun i => l[i]?.getD default) := by
  have HS := Lib.hid hs
  have EN := Lib.hid en
  have K0 := Lib.hid (heap_alloc_at w (.cells #[.int .i64 0] 159) _ rfl)
  clear hs en
  go_enter Try.func38, Try.ntmps38
  go_wp2
  go_loopw [5, 12] (fun a i wr => ∃ (k : Nat) (u : Value) (b : Nat → Nat), k ≤ n ∧ i = .int .i64 (k : Nat) ∧ a = u ∧ Mk w wr k u b (fun i => l[i]?.getD default)) (fun _ i _ => n - (intOf i).toNat)
  case atStart => exact ⟨0, _, fun _ => 0, by omega, rfl, rfl, below1 _ _, owns_nil _ _ _, K0.out, fun i hi => by omega, fun i hi => by omega, fun i j _ hj => by omega, fun i hi => by omega⟩
  case round =>
    obtain ⟨k, u, b, hk, rfl, rfl, hM⟩ := hrel
    clear K0
    by_cases hlt : k < n
    · have hkl : k < l.length := by have := EN.out; omega
      obtain ⟨bq, off, rfl, hbw, c0, c1, c2⟩ := (HS.out.below hM.below).cells k hkl
      obtain ⟨⟨x0, x1, x2⟩, ex⟩ : ∃ x, x = l[k]?.getD default := ⟨_, rfl⟩
      have EX := Lib.hid ex
      rw [← ex] at c0 c1 c2
      simp only at c0 c1 c2
      have hkn : (k : Int) < n := by omega
      obtain ⟨pu, cu, eu, _⟩ := hM.own.sl
      subst eu
      obtain ⟨W1, hW1⟩ : ∃ W, W = wr.alloc (.cells #[.int .i64 x0, .int .i64 x1, .int .i64 x2] 157) := ⟨_, rfl⟩
      obtain ⟨Z, hZ⟩ : ∃ Z, wr.heap.size = Z := ⟨_, rfl⟩
      have K1 : Hid (W1.heap[Z]? = some (.cells #[.int .i64 x0, .int .i64 x1, .int .i64 x2] 157 (0, 0))) := by show _ = _; rw [hW1, ← hZ]; exact heap_alloc_at _ _ _ rfl
      have B1 : Hid (Below wr.heap.size wr W1) := by show Below _ _ _; rw [hW1]; exact below1 _ _
      have hsz1 : W1.heap.size = Z + 1 := by rw [hW1, ← hZ]; simp
      have MM := Lib.hid hM
      have hwz : w.heap.size < Z := by have := lt_of_heap hM.clock; omega
      have hxo : ∀ y, (Value.slice pu k cu).ownBlock = some y → y < Z := fun y hy => by have := (hM.own.lt y hy).2; omega
      have hbz : ∀ i, i < k → b i < Z := fun i hi => by have := lt_of_heap (hM.toy i hi); omega
      have O2 : Hid (Owns (W1.alloc (.cells #[.int .i64 x0, .int .i64 x1, .int .i64 x2, .pointer (some ⟨w.heap.size, 0, none⟩)] 162)) (w.heap.size + 1) 1 (.slice pu k cu) k ((List.range k).map (fun i => Tk.val (some (b i))))) := (hM.own.below B1.out).below (below1 _ _)
      have HSZ := Lib.hid hsz1
      have HXO := Lib.hid hxo
      have HBZ := Lib.hid hbz
      have hB2 : w.heap.size + 1 ≤ (W1.alloc (.cells #[.int .i64 x0, .int .i64 x1, .int .i64 x2, .pointer (some ⟨w.heap.size, 0, none⟩)] 162)).heap.size := by rw [World.size_alloc]; omega
      have hmxl : k + 1 ≤ maxLen := by unfold maxLen; omega
      have hbyt : (k + 1) * 16 ≤ 140737488355328 := by omega
      clear ex hsz1 hxo hbz hM
      go_upto_region 6 with fail
      rw [← hW1]
      try rw [hZ]
      clear hW1 c0 c1 c2 hbw
      go_wp2_with (first | ((with_reducible refine wpList_load_rowAs rfl 157 _ rfl (Z) ?_ 157 #[.int .i64 x0, .int .i64 x1, .int .i64 x2] (0, 0) _ 3 ?_ Try.underlying157 rfl (by kernel_rfl) ?_ ?_); exact rfl; exact K1.out; exact rfl) | (at_builtin; refine wpList_append_new2 rfl _ _ 76 rfl _ _ 165 rfl (w.heap.size + 1) 165 .nilIface 1 16 Try.underlying76 taskInfo rfl (by decide) (.slice pu k cu) k ((List.range k).map (fun i => Tk.val (some (b i)))) rfl O2.out (by first | rfl | (rw [World.size_alloc]; rfl)) rfl (by intro v hv; simp at hv; subst hv; rfl) hmxl hbyt hB2 ?_; intro u8 x8 ha8 hg8 hb8 hw8; have HA8 := Lib.hid ha8; have HG8 := Lib.hid hg8; have HB8 := Lib.hid hb8; have HW8 := Lib.hid hw8; clear ha8 hg8 hb8 hw8))
      obtain ⟨W2, hW2⟩ : ∃ W, W = W1.alloc (.cells #[.int .i64 x0, .int .i64 x1, .int .i64 x2, .pointer (some ⟨w.heap.size, 0, none⟩)] 162) := ⟨_, rfl⟩
      have hG := HG8.out
      have hB8 := HB8.out
      have hW8 := HW8.out
      rw [← hW2] at hG hB8 hW8
      have hsz := HSZ.out
      have hsz2 : W2.heap.size = Z + 2 := by rw [hW2, World.size_alloc]; omega
      have hb12 : Below W1.heap.size W1 W2 := by rw [hW2]; exact below1 _ _
      have hnew : W2.heap[Z + 1]? = some (.cells #[.int .i64 x0, .int .i64 x1, .int .i64 x2, .pointer (some ⟨w.heap.size, 0, none⟩)] 162 (0, 0)) := by rw [hW2]; exact heap_alloc_at _ _ _ (by omega)
      have hT8 : Turned (fun y => (Value.slice pu k cu).ownBlock = some y) W2 x8 := Turned.refl.grown hG (fun y hy _ => hy)
      have hbl : Below w.heap.size w W2 := (MM.out.below.trans (B1.out.mono MM.out.below.size)).trans (hb12.mono (by omega))
      have hold : ∀ y o, wr.heap[y]? = some o → (Value.slice pu k cu).ownBlock ≠ some y → x8.heap[y]? = some o := fun y o ho hne => by
        have h1 : W2.heap[y]? = some o := ((hb12.block _ (by have := lt_of_heap ho; have := B1.out.size; omega)).trans (B1.out.block _ (lt_of_heap ho))).trans ho
        exact (hT8.block _ (lt_of_heap h1) hne).trans h1
      refine ⟨⟨k + 1, u8, fun i => if i = k then Z + 1 else b i, by omega, by go_num, rfl, ⟨hbl.trans (hB8.mono (by omega)), ?_, hold _ _ MM.out.clock (fun e => by have := (MM.out.own.lt _ e).1; omega), fun i hi => ?_, fun i hi => ?_, fun i j hij hj => ?_, fun i hi e => ?_⟩⟩, by simp [intOf]; omega⟩
      · rw [List.range_succ, List.map_append]
        have e1 : (List.range k).map (fun i => Tk.val (some (if i = k then Z + 1 else b i))) = (List.range k).map (fun i => Tk.val (some (b i))) := by
          apply List.map_congr_left
          intro i hi
          rw [List.mem_range] at hi
          rw [if_neg (by omega)]
        rw [e1]
        have e2 : [k].map (fun i => Tk.val (some (if i = k then Z + 1 else b i))) = [Value.iface 160 (.pointer (some ⟨W1.heap.size, 0, none⟩))] := by
          rw [List.map_cons, if_pos rfl, hsz]; rfl
        rw [e2]
        exact HA8.out
      · by_cases e : i = k
        · subst e
          simp only [if_true]
          rw [← EX.out]
          exact (hT8.block _ (by omega) (fun e => by have := HXO.out _ e; omega)).trans hnew
        · simp only [if_neg e]
          exact hold _ _ (MM.out.toy i (by omega)) (MM.out.off i (by omega))
      · by_cases e : i = k
        · subst e; simp only [if_true]; omega
        · simp only [if_neg e]; exact MM.out.lo i (by omega)
      · by_cases e : j = k
        · subst e
          simp only [if_true]
          rw [if_neg (by omega)]
          have := HBZ.out i (by omega)
          omega
        · simp only [if_neg e]
          rw [if_neg (by omega)]
          exact MM.out.inc i j hij (by omega)
      · by_cases e2 : i = k
        · subst e2
          simp only [if_true] at e
          rcases hW8 with g | g
          · rw [g] at e; have := HXO.out _ e; omega
          · have := g _ e; omega
        · simp only [if_neg e2] at e
          rcases hW8 with g | g
          · rw [g] at e; exact MM.out.off i (by omega) e
          · have := g _ e; have := HBZ.out i (by omega); omega
    · obtain rfl : k = n := by omega
      obtain ⟨pu, cu, eu, _⟩ := hM.own.sl
      subst eu
      have MM := Lib.hid hM
      clear hM
      go_wp2
      go_ret2
      exact ⟨_, _, b, rfl, MM.out⟩

section
variable {l : List Toy} {q : Option Addr} {n cap : Nat} {w : World}
set_option maxHeartbeats 1000000 in
set_option maxRecDepth 100000 in
theorem ref27_next (hs : Toys w q l) (en : l.length = n) (used : Int) (hf : Tk.Fine n (fun i => l[i]?.getD default) used) (hn : n ≤ 1000) (pick : Int) (hp : I64 pick) :
    Calls Try.prog 41 #[.slice q n cap, .int .i64 used, .int .i64 pick] w fun e w' => e = .returned (.int .i64 (Tk.next n (fun i => l[i]?.getD default) used pick)) ∧ Below w.heap.size w w' := by
  have F := Lib.hid (ref27_first pick hp n (by omega))
  have HS := Lib.hid hs
  have HF := Lib.hid hf
  have EN := Lib.hid en
  have hfi := fun h0 : 0 < n => Tk.first_in pick h0
  have hne : Tk.next n (fun i => l[i]?.getD default) used pick = match Tk.found n (fun i => l[i]?.getD default) used (Tk.first pick n).toNat n with | some x => (x : Int) | none => -1 := rfl
  obtain ⟨r, er⟩ : ∃ r, r = Tk.next n (fun i => l[i]?.getD default) used pick := ⟨_, rfl⟩
  obtain ⟨a, ea⟩ : ∃ a, a = Tk.first pick n := ⟨_, rfl⟩
  rw [← er] at hne ⊢
  rw [← ea] at F hne
  simp only [← ea] at hfi
  have HNE := Lib.hid hne
  have HFI := Lib.hid hfi
  have hp1 := hp.1
  have hp2 := hp.2
  clear er ea hne hfi hs hf hp en
  go_enter Try.func41, Try.ntmps41
  go_wp2_with ((with_reducible refine (F.out _).mono ?_); rintro e w1 ⟨rfl, rfl⟩)
  go_loopw [8] (fun i wr => ∃ k : Nat, k ≤ n ∧ i = .int .i64 (k : Nat) ∧ Tk.found n (fun i => l[i]?.getD default) used a.toNat k = none ∧ Below w.heap.size w wr) (fun i _ => n - (intOf i).toNat)
  case atStart => exact ⟨0, by omega, rfl, rfl, Below.refl _ _⟩
  case round =>
    obtain ⟨k, hk, rfl, hno, hB⟩ := hrel
    by_cases hlt : k < n
    · obtain ⟨ha0, ha1⟩ := HFI.out (by omega)
      obtain ⟨an, rfl⟩ : ∃ an : Nat, a = an := ⟨a.toNat, by omega⟩
      have hfn := Tk.found_next hno
      simp only [Int.toNat_natCast] at hfn hno HNE
      obtain ⟨m, em⟩ : ∃ m, m = (an + k) % n := ⟨_, rfl⟩
      rw [← em] at hfn
      have hml : m < n := by rw [em]; exact Nat.mod_lt _ (by omega)
      have hmi : ((an : Int) + (k : Int)) % (n : Int) = (m : Nat) := by rw [em, Int.natCast_emod, Int.natCast_add]
      have hmL : m < l.length := by have := EN.out; omega
      obtain ⟨bq, off, rfl, hbw, c0, c1, c2⟩ := (HS.out.below hB).cells m hmL
      have R := ref27_ready (l[m]?.getD default) (HF.out.In m hml) (HF.out.ph m hml).1 (HF.out.ph m hml).2 used HF.out.u0 HF.out.u1
      obtain ⟨rd, erd⟩ : ∃ b, b = Toy.ready (l[m]?.getD default) used := ⟨_, rfl⟩
      rw [← erd] at R hfn
      obtain ⟨⟨x0, x1, x2⟩, ex⟩ : ∃ x, x = l[m]?.getD default := ⟨_, rfl⟩
      rw [← ex] at c0 c1 c2 R
      simp only at c0 c1 c2 R
      have R := Lib.hid R
      have hnn : (n : Int) ≠ 0 := by omega
      have hk0 : (k : Int) < n := by omega
      have HB := Lib.hid hB
      have HFN := Lib.hid hfn
      have hm0 : (m : Int) < n := by omega
      clear hfn hno em hB ex erd
      cases rd with
      | false =>
        have hno2 : Tk.found n (fun i => l[i]?.getD default) used an (k + 1) = none := by rw [HFN.out]; rfl
        have HNO := Lib.hid hno2
        clear hno2
        go_wp2_with fail
        (with_reducible refine (R.out _).mono ?_)
        rintro e w2 ⟨rfl, hb2⟩
        have HB2 := Lib.hid (HB.out.trans (hb2.mono HB.out.size))
        clear hb2
        go_wp2
        exact ⟨⟨k + 1, by omega, by go_num, by simpa using HNO.out, HB2.out⟩, by simp [intOf]; omega⟩
      | true =>
        have hre : r = m := by
          have h1 : Tk.found n (fun i => l[i]?.getD default) used an (k + 1) = some m := by rw [HFN.out]; rfl
          have h2 := Tk.found_up h1 (n - (k + 1))
          rw [show k + 1 + (n - (k + 1)) = n by omega] at h2
          rw [HNE.out, h2]
        have HRE := Lib.hid hre
        clear hre
        go_wp2_with fail
        (with_reducible refine (R.out _).mono ?_)
        rintro e w2 ⟨rfl, hb2⟩
        have HB2 := Lib.hid (HB.out.trans (hb2.mono HB.out.size))
        clear hb2
        go_wp2
        go_ret
        exact ⟨ret_int HRE.out.symm, HB2.out⟩
    · obtain rfl : k = n := by omega
      have hre : r = -1 := by rw [HNE.out, hno]
      have HRE := Lib.hid hre
      have HB := Lib.hid hB
      clear hre hno hB
      go_wp2
      go_ret
      exact ⟨ret_int HRE.out.symm, HB.out⟩

set_option maxHeartbeats 1000000 in
set_option maxRecDepth 100000 in
theorem ref27_open (hs : Toys w q l) (en : l.length = n) (hn : n ≤ 1000) :
    Calls Try.prog 42 #[.slice q n cap] w fun e w' => e = .returned (.int .i64 (Tk.open' (fun i => l[i]?.getD default) n)) ∧ w = w' := by
  have HS := Lib.hid hs
  have EN := Lib.hid en
  have HO := Lib.hid (fun k => show Tk.open' (fun i => l[i]?.getD default) (k + 1) = if (l[k]?.getD default).left < 1 then Tk.open' (fun i => l[i]?.getD default) k else Tk.open' (fun i => l[i]?.getD default) k + 1 from rfl)
  have HI := Lib.hid (Tk.open_in (fun i => l[i]?.getD default))
  have H0 : Hid (Tk.open' (fun i => l[i]?.getD default) 0 = 0) := rfl
  obtain ⟨f, ef⟩ : ∃ f, f = Tk.open' (fun i => l[i]?.getD default) := ⟨_, rfl⟩
  simp only [← ef] at HO HI H0 ⊢
  clear ef hs en
  go_enter Try.func42, Try.ntmps42
  go_wp2
  go_loopw [3, 4] (fun s i wr => ∃ k : Nat, k ≤ n ∧ i = .int .i64 (k : Nat) ∧ s = .int .i64 (f k) ∧ w = wr) (fun _ i _ => n - (intOf i).toNat)
  case atStart => exact ⟨0, by omega, rfl, by rw [H0.out], rfl⟩
  case round =>
    obtain ⟨k, hk, rfl, rfl, rfl⟩ := hrel
    by_cases hlt : k < n
    · have hkl : k < l.length := by have := EN.out; omega
      obtain ⟨bq, off, rfl, hbw, c0, _, _⟩ := HS.out.cells k hkl
      have hi := HI.out k
      have ho := HO.out k
      have hkn : (k : Int) < n := by omega
      obtain ⟨s, es⟩ : ∃ s, s = f k := ⟨_, rfl⟩
      rw [← es] at hi ho ⊢
      obtain ⟨x0, ex⟩ : ∃ x, x = (l[k]?.getD default).left := ⟨_, rfl⟩
      rw [← ex] at c0 ho
      by_cases hl : x0 < 1
      · rw [if_pos hl] at ho
        have HSS := Lib.hid ho
        have hl2 : ¬ 0 < x0 := by omega
        clear ho es ex
        go_wp2
        exact ⟨⟨k + 1, by omega, by go_num, by rw [HSS.out], by trivial⟩, by simp [intOf]; omega⟩
      · rw [if_neg hl] at ho
        have HSS := Lib.hid ho
        have hl2 : 0 < x0 := by omega
        clear ho es ex
        go_wp2
        exact ⟨⟨k + 1, by omega, by go_num, by rw [HSS.out], by trivial⟩, by simp [intOf]; omega⟩
    · obtain rfl : k = n := by omega
      go_wp2
      go_ret
      exact ⟨rfl, rfl⟩
end
end Go.Proofs.Ytldhbgefpfmkmaa
