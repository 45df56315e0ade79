/- Layer 52: of samples that all have one value the line is that value: the law, walked. -/
import Derived.Test.YtcanbagnehdbiaaJLaws52
namespace Go.Proofs.Ytcanbagnehdbiaa
open Go.ChangeShapes Go.WideShapes Go.ChangeAt Go.RowKit

theorem Ser.of_mem (room : Nat) (l : List Samp) : ∀ k, k ≤ l.length → ∀ a ∈ Ser.of room l k, a ∈ l
  | 0, _ => by simp [Ser.of]
  | k + 1, h => by
    have ih := Ser.of_mem room l k (by omega)
    rw [Ser.of_next room l k (by omega)]
    unfold Ser.step
    split
    · intro a ha
      rcases Ser.put_mem ha with h2 | h2
      · exact ih a h2
      · rw [h2, List.getElem?_eq_getElem (by omega)]; exact List.getElem_mem _
    · exact ih
theorem Ser.put_some (L : List Samp) {room : Nat} (hr : 1 ≤ room) (x : Samp) : (Ser.put L room x).length ≠ 0 := by
  have hp := Ser.place_le L x.tick
  have h1 : 1 ≤ (Ser.ins L x).length := by
    unfold Ser.ins
    split
    · rename_i h; rw [List.length_set]; omega
    · rw [List.length_append, List.length_cons]; omega
  unfold Ser.put Ser.cutTo
  split
  · rw [List.length_drop]; omega
  · omega
theorem Ser.of_any {room : Nat} (hr : 1 ≤ room) (l : List Samp) : ∀ k, k ≤ l.length → ((Ser.of room l k).length ≠ 0 ↔ ∃ j, j < k ∧ Ser.code (l[j]?.getD default) = 0)
  | 0, _ => ⟨fun h => absurd rfl h, fun ⟨j, h, _⟩ => absurd h (Nat.not_lt_zero j)⟩
  | k + 1, h => by
    have ih := Ser.of_any hr l k (by omega)
    rw [Ser.of_next room l k (by omega)]
    unfold Ser.step
    by_cases hc : Ser.code (l[k]?.getD default) = 0
    · rw [if_pos hc]
      exact ⟨fun _ => ⟨k, by omega, hc⟩, fun _ => Ser.put_some _ hr _⟩
    · rw [if_neg hc, ih]
      constructor
      · rintro ⟨j, h1, h2⟩; exact ⟨j, by omega, h2⟩
      · rintro ⟨j, h1, h2⟩
        have : j ≠ k := fun e => hc (e ▸ h2)
        exact ⟨j, by omega, h2⟩
theorem Trd.total_const (v : Nat) : ∀ (l : List Int) (s : Nat), (∀ x ∈ l, x = (v : Int)) → l.foldl (fun s n => s + n.toNat) s = s + l.length * v
  | [], s, _ => by simp
  | a :: l, s, h => by
    have ha := h a (by simp)
    rw [List.foldl_cons, Trd.total_const v l _ (fun x hx => h x (by simp [hx])), ha, List.length_cons, Int.toNat_natCast, Nat.add_mul]
    omega
theorem Trd.mean_const {l : List Samp} (h0 : l.length ≠ 0) (v : Nat) (hv : v ≤ 9223372036854775807) (h : ∀ a ∈ l, a.val = (v : Int)) : Trd.mean l = v := by
  have hl : (Samp.vals l).length = l.length := Samp.vals_len l
  unfold Trd.mean
  rw [Stat.of_some (by rw [hl]; exact h0)]
  show Wide.up _ _ = _
  have ht : Bits.total (Samp.vals l) = (Samp.vals l).length * v := by
    unfold Bits.total
    rw [Trd.total_const v (Samp.vals l) 0 (fun x hx => by
      unfold Samp.vals at hx
      obtain ⟨a, ha, rfl⟩ := List.mem_map.1 hx
      have := h a ha
      omega), Nat.zero_add]
  rw [ht, hl]
  unfold Wide.up
  rw [if_neg h0, Nat.mul_mod_right, if_pos rfl, Nat.mul_div_cancel_left v (by omega)]
  unfold Bits.small
  rw [if_pos (by omega)]
  rfl
theorem Trd.line_const {L : List Samp} (h0 : L.length ≠ 0) (v : Nat) (hv : v ≤ 9223372036854775807) (h : ∀ a ∈ L, a.val = (v : Int)) : (Trd.line L).val = v ∧ (Trd.line L).rise = 0 := by
  by_cases e1 : L.length = 1
  · have e : Trd.line L = ⟨(L[0]?.getD default).tick, (L[0]?.getD default).val, 0, 1⟩ := by unfold Trd.line; rw [if_neg h0, if_pos e1]
    rw [e]
    exact ⟨h _ (by rw [List.getElem?_eq_getElem (by omega)]; exact List.getElem_mem _), rfl⟩
  · rw [Trd.line_some (m := L.length - L.length / 2) (h := L.length / 2) (by omega) (by omega) (by omega) (by omega)]
    have m1 := Trd.mean_const (l := L.drop (L.length - L.length / 2)) (by rw [List.length_drop]; omega) v hv (fun a ha => h a (List.mem_of_mem_drop ha))
    have m2 := Trd.mean_const (l := L.take (L.length / 2)) (by rw [List.length_take]; omega) v hv (fun a ha => h a (List.mem_of_mem_take ha))
    exact ⟨m1, by show Trd.mean _ - Trd.mean _ = 0; rw [m1, m2]; omega⟩
theorem Lin.at_const {x : Lin} {v : Nat} (hv : v ≤ 9223372036854775807) (h1 : x.val = v) (h2 : x.rise = 0) (h3 : 1 ≤ x.run) (t : Int) : x.at t = v ∧ x.up = false := by
  constructor
  · unfold Lin.at
    rw [if_neg (by omega), h1, h2, Int.mul_zero, show Sat.clamp 0 = 0 by decide]
    have : Sat.floor 0 x.run = 0 := by unfold Sat.floor; rw [if_neg (by omega)]; exact Int.zero_ediv _
    rw [this, Int.add_zero, Sat.clamp_of (by unfold I64; omega)]
    omega
  · unfold Lin.up
    rw [h2]
    simp

/-- Samples with other values. -/
def Trd.flat (v : Int) (l : List Samp) : List Samp := l.map fun a => ⟨a.tick, v⟩
theorem Trd.flat_next (v : Int) (l : List Samp) (k : Nat) (h : k < l.length) : Trd.flat v (l.take (k + 1)) = Trd.flat v (l.take k) ++ [⟨(l[k]?.getD default).tick, v⟩] := by
  unfold Trd.flat
  rw [List.take_succ_eq_append_getElem h, List.map_append, List.getElem?_eq_getElem h]
  rfl
def Trd.some' (l : List Samp) : Nat → Bool
  | 0 => false
  | k + 1 => Trd.some' l k || decide (0 ≤ (l[k]?.getD default).tick)
theorem Trd.some_iff (l : List Samp) : ∀ k, Trd.some' l k = true ↔ ∃ j, j < k ∧ 0 ≤ (l[j]?.getD default).tick
  | 0 => by simp [Trd.some']
  | k + 1 => by
    have ih := Trd.some_iff l k
    unfold Trd.some'
    rw [Bool.or_eq_true, decide_eq_true_iff, ih]
    constructor
    · rintro (⟨j, h1, h2⟩ | h)
      · exact ⟨j, by omega, h2⟩
      · exact ⟨k, by omega, h⟩
    · rintro ⟨j, h1, h2⟩
      by_cases e : j = k
      · subst e; exact .inr h2
      · exact .inl ⟨j, by omega, h2⟩
theorem Trd.flat_get (v : Int) (l : List Samp) (j : Nat) (h : j < l.length) : (Trd.flat v l)[j]?.getD default = ⟨(l[j]?.getD default).tick, v⟩ := by
  unfold Trd.flat
  rw [List.getElem?_map, List.getElem?_eq_getElem h]
  rfl
theorem Trd.flat_len (v : Int) (l : List Samp) : (Trd.flat v l).length = l.length := by unfold Trd.flat; rw [List.length_map]
theorem Trd.flat_In {v : Int} (hv : I64 v) {l : List Samp} (hl : ∀ a ∈ l, a.In) : ∀ a ∈ Trd.flat v l, a.In := by
  intro a ha
  unfold Trd.flat at ha
  obtain ⟨b, hb, rfl⟩ := List.mem_map.1 ha
  exact ⟨(hl b hb).1, hv⟩
theorem Trd.flat_is {v : Int} (hv : 0 ≤ v) (l : List Samp) : decide (0 < (Ser.of 256 (Trd.flat v l) (Trd.flat v l).length).length) = Trd.some' l l.length := by
  have h1 := Ser.of_any (room := 256) (by omega) (Trd.flat v l) (Trd.flat v l).length (Nat.le_refl _)
  have h2 := Trd.some_iff l l.length
  have h3 : (∃ j, j < (Trd.flat v l).length ∧ Ser.code ((Trd.flat v l)[j]?.getD default) = 0) ↔ ∃ j, j < l.length ∧ 0 ≤ (l[j]?.getD default).tick := by
    rw [Trd.flat_len]
    have key : ∀ j, j < l.length → (Ser.code ((Trd.flat v l)[j]?.getD default) = 0 ↔ 0 ≤ (l[j]?.getD default).tick) := by
      intro j hj
      rw [Trd.flat_get v l j hj]
      unfold Ser.code
      by_cases ht : (l[j]?.getD default).tick < 0
      · rw [if_pos ht]; constructor <;> intro <;> omega
      · rw [if_neg ht, if_neg (by show ¬ v < 0; omega)]; constructor <;> intro <;> omega
    constructor
    · rintro ⟨j, a, b⟩; exact ⟨j, a, (key j a).1 b⟩
    · rintro ⟨j, a, b⟩; exact ⟨j, a, (key j a).2 b⟩
  cases hs : Trd.some' l l.length with
  | true =>
    have := h1.2 (h3.2 (h2.1 hs))
    exact decide_eq_true (by omega)
  | false =>
    refine decide_eq_false (fun h => ?_)
    have := h2.2 (h3.1 (h1.1 (by omega)))
    rw [hs] at this
    cases this

set_option maxHeartbeats 4000000 in
set_option maxRecDepth 100000 in
theorem trendFlat_walk (p : Option Addr) (cap : Nat) (l : List Samp) (hl : ∀ a ∈ l, a.In) (hb : l.length ≤ 9223372036854775807) (v : Int) (hv : I64 v) (t : Int) (ht : I64 t) (w : World) (hs : Samps w p l) :
    Calls Try.prog 14 #[.slice p l.length cap, .int .i64 v, .int .i64 t] w fun e w' => e = .returned (.bool true) ∧ Below w.heap.size w w' := by
  obtain ⟨n, en⟩ : ∃ n, n = l.length := ⟨_, rfl⟩
  by_cases hg : 60 < n ∨ n = 0 ∨ v < 0
  · rw [← en] at hb ⊢
    clear en hs hl
    by_cases h60 : 60 < n
    · have d1 : decide ((60 : Int) < n) = true := decide_eq_true (by omega)
      clear hg
      go_enter Try.func14, Try.ntmps14
      go_wp2_with fail
      (with_reducible refine (awake52 _).mono ?_)
      rintro e w1 ⟨rfl, hb1⟩
      have M1 := Lib.hid ((Mem.start w).call hb1)
      clear hb1
      go_wp2
      go_ret
      exact ⟨rfl, M1.out.below⟩
    have d1 : decide ((60 : Int) < n) = false := decide_eq_false (by omega)
    by_cases h0 : n = 0
    · subst h0
      clear hg
      go_enter Try.func14, Try.ntmps14
      go_wp2_with fail
      (with_reducible refine (awake52 _).mono ?_)
      rintro e w1 ⟨rfl, hb1⟩
      have M1 := Lib.hid ((Mem.start w).call hb1)
      clear hb1
      go_wp2
      go_ret
      exact ⟨rfl, M1.out.below⟩
    have hv0 : v < 0 := by omega
    have d2 : ((n : Int) == 0) = false := beq_eq_false_iff_ne.2 (by omega)
    have d3 : decide (v < 0) = true := decide_eq_true hv0
    clear hg
    go_enter Try.func14, Try.ntmps14
    go_wp2_with fail
    (with_reducible refine (awake52 _).mono ?_)
    rintro e w1 ⟨rfl, hb1⟩
    have M1 := Lib.hid ((Mem.start w).call hb1)
    clear hb1
    go_wp2
    go_ret
    exact ⟨rfl, M1.out.below⟩
  have d1 : decide ((60 : Int) < n) = false := decide_eq_false (by omega)
  have d2 : ((n : Int) == 0) = false := beq_eq_false_iff_ne.2 (by omega)
  have d3 : decide (v < 0) = false := decide_eq_false (by omega)
  have hn60 : n ≤ 60 := by omega
  have hfl := Trd.flat_len v l
  have f1 := fun (q : Option Addr) (c : Nat) (W : World) (h : Samps W q (Trd.flat v l)) => trend_of q c (Trd.flat v l) (Trd.flat_In hv hl) (by omega) W h
  have hgood := Ser.of_good 256 (Trd.flat v l) (Trd.flat_In hv hl) (Trd.flat v l).length (Nat.le_refl _)
  have hsort := Ser.of_sorted 256 (Trd.flat v l) (Trd.flat v l).length (Nat.le_refl _)
  have hmem := Ser.of_mem 256 (Trd.flat v l) (Trd.flat v l).length (Nat.le_refl _)
  have hflat := Trd.flat_is (by omega : 0 ≤ v) l
  obtain ⟨L, eL⟩ : ∃ L, L = Ser.of 256 (Trd.flat v l) (Trd.flat v l).length := ⟨_, rfl⟩
  rw [← eL] at hgood hsort hmem hflat
  simp only [← eL] at f1
  simp only [hflat] at f1
  simp only [hfl] at f1
  obtain ⟨V, rfl⟩ : ∃ V : Nat, v = V := ⟨v.toNat, by omega⟩
  have hV : V ≤ 9223372036854775807 := by have := hv.2; omega
  have hval : ∀ a ∈ L, a.val = (V : Int) := fun a ha => by
    have := hmem a ha
    unfold Trd.flat at this
    obtain ⟨b, _, rfl⟩ := List.mem_map.1 this
    rfl
  have hline : Trd.some' l l.length = true → (Trd.line L).at t = V ∧ (Trd.line L).up = false := fun h => by
    rw [← hflat] at h
    have h0 : 0 < L.length := of_decide_eq_true h
    obtain ⟨g1, g2⟩ := Trd.line_const (by omega) V hV hval
    exact Lin.at_const hV g1 g2 ((Trd.line_good hsort hgood).2 h0) t
  have f2 := fun W : World => trend_at (Trd.line L) (Trd.line_good hsort hgood).1 t ht W
  have f3 := fun W : World => trend_up (Trd.line L) W
  obtain ⟨y, ey⟩ : ∃ y, y = Trd.line L := ⟨_, rfl⟩
  simp only [← ey] at f1 f2 f3
  rw [← ey] at hline
  have HNX := Lib.hid (Trd.flat_next V l)
  have HSN := Lib.hid (fun k => show Trd.some' l (k + 1) = (Trd.some' l k || decide (0 ≤ (l[k]?.getD default).tick)) from rfl)
  have HS0 : Hid (Trd.some' l 0 = false) := rfl
  have HFN : Hid (Trd.flat V (l.take n) = Trd.flat V l) := by show _ = _; rw [en, List.take_length]
  have HFL : Hid (∀ k, k ≤ l.length → (Trd.flat V (l.take k)).length = k) := fun k hk => by rw [Trd.flat_len, List.length_take]; omega
  have HF0 : Hid (Trd.flat V (l.take 0) = []) := rfl
  obtain ⟨sm, esm⟩ : ∃ s, s = Trd.some' l := ⟨_, rfl⟩
  rw [← esm] at HSN HS0 hline
  simp only [show Trd.some' l l.length = sm l.length by rw [esm]] at f1
  obtain ⟨fl, efl⟩ : ∃ f, f = fun k => Trd.flat V (l.take k) := ⟨_, rfl⟩
  have HNX2 : Hid (∀ k, k < l.length → fl (k + 1) = fl k ++ [⟨(l[k]?.getD default).tick, (V : Int)⟩]) := by rw [efl]; exact HNX.out
  have HFN2 : Hid (fl n = Trd.flat V l) := by rw [efl]; exact HFN.out
  have HFL2 : Hid (∀ k, k ≤ l.length → (fl k).length = k) := by rw [efl]; exact HFL.out
  have HF02 : Hid (fl 0 = []) := by rw [efl]; exact HF0.out
  rw [← en] at hb hline
  simp only [← en] at f1 ⊢
  obtain ⟨F, eF⟩ : ∃ F, F = Trd.flat V l := ⟨_, rfl⟩
  rw [← eF] at HFN2
  simp only [← eF] at f1
  obtain ⟨y0, y1, y2, y3⟩ := y
  have F1 : Hid (∀ (q : Option Addr) (c : Nat) (W : World), Samps W q F → Calls Try.prog 53 #[.slice q n c] W fun e w' => e = .returned (.tuple #[.agg #[.int .i64 y0, .int .i64 y1, .int .i64 y2, .int .i64 y3], .bool (sm n)]) ∧ Below W.heap.size W w') := f1
  have F2 := Lib.hid f2
  have F3 := Lib.hid f3
  have HS := Lib.hid hs
  have EN := Lib.hid en
  have HLINE := Lib.hid hline
  clear f1 f2 f3 hs en hl hline hmem hval hflat hgood hsort eL ey esm efl eF hfl HNX HFN HFL HF0 hv ht hg
  go_enter Try.func14, Try.ntmps14
  go_wp2_with fail
  (with_reducible refine (awake52 _).mono ?_)
  rintro e w1 ⟨rfl, hb1⟩
  have B1 := Lib.hid ((Mem.start w).call hb1).below
  clear hb1
  go_wp2
  go_loopw [7, 8, 29] (fun o sb i wr => ∃ k : Nat, k ≤ n ∧ i = .int .i64 (k : Nat) ∧ sb = .bool (sm k) ∧ Owns wr w.heap.size 2 o k (sampVals (fl k)) ∧ Below w.heap.size w wr) (fun _ _ i _ => n - (intOf i).toNat)
  case atStart => exact ⟨0, by omega, rfl, by rw [HS0.out], by rw [HF02.out]; exact owns_nil _ _ _, B1.out⟩
  case round =>
    obtain ⟨k, hk, rfl, rfl, hO, hB⟩ := hrel
    by_cases hlt : k < n
    · have hkl : k < l.length := by have := EN.out; omega
      obtain ⟨b, off, rfl, hbw, _⟩ := HS.out.cells k hkl
      obtain ⟨c0, c1⟩ := HS.out.cc k hkl wr hB
      have hnx := HNX2.out k hkl
      have hsn := HSN.out k
      have hfl := HFL2.out k (by omega)
      obtain ⟨⟨a0, a1⟩, ea⟩ : ∃ a, a = l[k]?.getD default := ⟨_, rfl⟩
      rw [← ea] at c0 c1 hnx hsn
      simp only at c0 c1 hnx hsn
      obtain ⟨xs, exs⟩ : ∃ s, s = fl k := ⟨_, rfl⟩
      rw [← exs] at hnx hO hfl
      obtain ⟨s0, es0⟩ : ∃ s, s = sm k := ⟨_, rfl⟩
      rw [← es0] at hsn ⊢
      have HNX3 := Lib.hid hnx
      have LT := Lib.hid (fun k' (e : u7.ownBlock = some k') => (hO.lt k' e).2)
      have HO := Lib.hid (hO.below (below1 wr (.cells #[.int .i64 a0, .int .i64 a1] 73)))
      have HB := Lib.hid (hB.alloc hB.size (.cells #[.int .i64 a0, .int .i64 a1] 73))
      have hkn : (k : Int) < n := by omega
      clear ea exs es0 hnx hO hB hkl hfl
      have hBW := HB.out
      cases s0 with
      | true =>
        have HSN3 : Hid (sm (k + 1) = true) := hsn.trans (Bool.true_or _)
        clear hsn
        go_wp2_with (at_builtin; refine wpList_append_new rfl _ _ 33 rfl _ _ 73 rfl _ 73 (.agg #[.int .i64 0, .int .i64 0]) 2 16 Try.underlying33 sampInfo rfl (by decide) _ _ _ rfl (HO.out) (by first | rfl | (rw [World.size_alloc]; rfl)) rfl (by first | (simp [Value.oneCell']; done) | (intro u hu; simp at hu; subst hu; rfl)) (by unfold maxLen; omega) (by omega) (Below.size (by assumption)) ?_; intro u1 x1 ha1 hg1 hc1)
        exact ⟨⟨k + 1, by omega, by go_num, by rw [HSN3.out], by rw [HNX3.out, sampVals_append]; exact ha1, HB.out.trans hc1⟩, by simp [intOf]; omega⟩
      | false =>
        by_cases hp : 0 ≤ a0
        · have HSN3 : Hid (sm (k + 1) = true) := hsn.trans (by rw [decide_eq_true hp]; rfl)
          clear hsn
          go_wp2_with ((at_builtin; refine wpList_append_new rfl _ _ 33 rfl _ _ 73 rfl _ 73 (.agg #[.int .i64 0, .int .i64 0]) 2 16 Try.underlying33 sampInfo rfl (by decide) _ _ _ rfl (HO.out) (by first | rfl | (rw [World.size_alloc]; rfl)) rfl (by first | (simp [Value.oneCell']; done) | (intro u hu; simp at hu; subst hu; rfl)) (by unfold maxLen; omega) (by omega) (Below.size (by assumption)) ?_; intro u1 x1 ha1 hg1 hc1); have hbk := (Turned.refl.grown (S := fun k' => u7.ownBlock = some k') hg1 (fun k' hk _ => hk)).block wr.heap.size (by simp) (fun e => by have := LT.out _ e; omega); have kx : x1.cell? ⟨wr.heap.size, 0, none⟩ = some (.int .i64 a0) := by rw [cell_of_row _ _ _ _ _ _ (hbk.trans (heap_alloc_at _ _ _ rfl))]; rfl)
          exact ⟨⟨k + 1, by omega, by go_num, by rw [HSN3.out], by rw [HNX3.out, sampVals_append]; exact ha1, HB.out.trans hc1⟩, by simp [intOf]; omega⟩
        · have HSN3 : Hid (sm (k + 1) = false) := hsn.trans (by rw [decide_eq_false hp]; rfl)
          clear hsn
          go_wp2_with ((at_builtin; refine wpList_append_new rfl _ _ 33 rfl _ _ 73 rfl _ 73 (.agg #[.int .i64 0, .int .i64 0]) 2 16 Try.underlying33 sampInfo rfl (by decide) _ _ _ rfl (HO.out) (by first | rfl | (rw [World.size_alloc]; rfl)) rfl (by first | (simp [Value.oneCell']; done) | (intro u hu; simp at hu; subst hu; rfl)) (by unfold maxLen; omega) (by omega) (Below.size (by assumption)) ?_; intro u1 x1 ha1 hg1 hc1); have hbk := (Turned.refl.grown (S := fun k' => u7.ownBlock = some k') hg1 (fun k' hk _ => hk)).block wr.heap.size (by simp) (fun e => by have := LT.out _ e; omega); have kx : x1.cell? ⟨wr.heap.size, 0, none⟩ = some (.int .i64 a0) := by rw [cell_of_row _ _ _ _ _ _ (hbk.trans (heap_alloc_at _ _ _ rfl))]; rfl)
          exact ⟨⟨k + 1, by omega, by go_num, by rw [HSN3.out], by rw [HNX3.out, sampVals_append]; exact ha1, HB.out.trans hc1⟩, by simp [intOf]; omega⟩
    · obtain rfl : k = n := by omega
      rw [HFN2.out] at hO
      have hlF : F.length = k := by have := HFL2.out k (by have := EN.out; omega); rwa [HFN2.out] at this
      rw [← hlF] at hO
      obtain ⟨q, c, rfl, _, hsa⟩ := samps_of_owns hO
      rw [hlF]
      have P := Lib.hid (F1.out q c wr hsa)
      have BR := Lib.hid hB
      clear hO hB hsa hlF F1 HNX2 HFN2 HFL2 HF02 HSN HS0
      obtain ⟨sb, esb⟩ : ∃ s, s = sm k := ⟨_, rfl⟩
      rw [← esb] at HLINE P ⊢
      clear esb
      go_wp2_with fail
      (with_reducible refine P.out.mono ?_)
      rintro e w3 ⟨rfl, hb3⟩
      have M3 := Lib.hid (((Mem.start w).call (show Below w.heap.size w w3 from BR.out.trans (hb3.mono BR.out.size))).alloc (.cells #[.int .i64 y0, .int .i64 y1, .int .i64 y2, .int .i64 y3] 95))
      have K3 := Lib.hid (M3.out.heap 0 rfl)
      clear hb3 P BR
      cases sb with
      | false =>
        clear HLINE K3 F2 F3
        go_wp2
        go_ret
        exact ⟨rfl, M3.out.below⟩
      | true =>
        obtain ⟨ha, hu⟩ := HLINE.out rfl
        rw [ha] at F2
        rw [hu] at F3
        have F2' : Hid (∀ W : World, Calls Try.prog 55 #[.agg #[.int .i64 y0, .int .i64 y1, .int .i64 y2, .int .i64 y3], .int .i64 t] W fun e w' => e = .returned (.int .i64 V) ∧ Below W.heap.size W w') := F2.out
        have F3' : Hid (∀ W : World, Calls Try.prog 57 #[.agg #[.int .i64 y0, .int .i64 y1, .int .i64 y2, .int .i64 y3]] W fun e w' => e = .returned (.bool false) ∧ Below W.heap.size W w') := F3.out
        clear HLINE F2 F3 ha hu
        go_wp2_with ((with_reducible refine wpList_load_rowG ?_ 95 _ rfl (w3.heap.size) ?_ 95 #[.int .i64 y0, .int .i64 y1, .int .i64 y2, .int .i64 y3] (0, 0) _ 4 ?_ Try.underlying95 rfl (by kernel_rfl) ?_ ?_); kernel_rfl; exact rfl; exact K3.out; exact rfl)
        (with_reducible refine (F2'.out _).mono ?_)
        rintro e w4 ⟨rfl, hb4⟩
        have M4 := Lib.hid (M3.out.call hb4)
        have K4 := Lib.hid (M4.out.heap 0 rfl)
        clear hb4 M3 K3
        go_wp2_with ((with_reducible refine wpList_load_rowG ?_ 95 _ rfl (w3.heap.size) ?_ 95 #[.int .i64 y0, .int .i64 y1, .int .i64 y2, .int .i64 y3] (0, 0) _ 4 ?_ Try.underlying95 rfl (by kernel_rfl) ?_ ?_); kernel_rfl; exact rfl; exact K4.out; exact rfl)
        (with_reducible refine (F3'.out _).mono ?_)
        rintro e w5 ⟨rfl, hb5⟩
        have M5 := Lib.hid (M4.out.call hb5)
        clear hb5 M4 K4
        go_wp2
        go_ret
        exact ⟨rfl, M5.out.below⟩
end Go.Proofs.Ytcanbagnehdbiaa
