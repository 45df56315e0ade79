/- Layer 27: toys as tasks; whether they are few; a run with nobody who looks on. -/
import Derived.Test.YtldhbgefpfmkmaaJSched5
import Derived.Test.YtldhbgefpfmkmaaJBase
namespace Go.Proofs.Ytldhbgefpfmkmaa
open Go.ChangeShapes Go.WideShapes Go.ChangeAt Go.RowKit

def Toy.get (t : Toy) : Nat → Int
  | 0 => t.left
  | 1 => t.gap
  | _ => t.phase
/-- A slice of toys. -/
def Toys (w : World) (p : Option Addr) (l : List Toy) : Prop := Sl w p l.length 3 (fun j => .int .i64 ((l[j / 3]?.getD default).get (j % 3)))
theorem Toys.below {w w' : World} {p : Option Addr} {l : List Toy} (h : Toys w p l) (hb : Below w.heap.size w w') : Toys w' p l := Sl.below h hb
theorem Toys.cells {w : World} {p : Option Addr} {l : List Toy} (h : Toys w p l) (k : Nat) (hk : k < l.length) :
    ∃ b off, p = some ⟨b, off, none⟩ ∧ b < w.heap.size ∧ w.cell? ⟨b, off + k * 3, none⟩ = some (.int .i64 (l[k]?.getD default).left) ∧ w.cell? ⟨b, off + k * 3 + 1, none⟩ = some (.int .i64 (l[k]?.getD default).gap) ∧ w.cell? ⟨b, off + k * 3 + 2, none⟩ = some (.int .i64 (l[k]?.getD default).phase) := by
  obtain ⟨b, off, hp, hb, hc⟩ := Sl.pos h (by omega)
  have key : ∀ i, i < 3 → w.cell? ⟨b, off + k * 3 + i, none⟩ = some (.int .i64 ((l[k]?.getD default).get i)) := by
    intro i hi
    have := hc (k * 3 + i) (by omega)
    rw [← Nat.add_assoc, show (k * 3 + i) / 3 = k by omega, show (k * 3 + i) % 3 = i by omega] at this
    exact this
  exact ⟨b, off, hp, hb, key 0 (by omega), key 1 (by omega), key 2 (by omega)⟩
def Toy.cells3 (t : Toy) : List Int := [t.left, t.gap, t.phase]
theorem toys_of_rows {w : World} {p : Option Addr} (l : List (List Int)) (h : Go.Proofs.Ytldhbgefpfmkmaa.Rows .i64 3 w p l) (hr : ∀ r ∈ l, r.length = 3 ∧ ∀ a ∈ r, (Lit.int .i64 a).wf = true) : ∃ m : List Toy, l = m.map Toy.cells3 ∧ Toys w p m ∧ ∀ a ∈ m, a.In := by
  have key : ∀ r ∈ l, ∃ a : Toy, r = a.cells3 ∧ a.In := by
    intro r hr'
    obtain ⟨h5, hw⟩ := hr r hr'
    match r, h5 with
    | [a, b, c], _ => exact ⟨⟨a, b, c⟩, rfl, I64.of_wf (hw a (by simp)), I64.of_wf (hw b (by simp)), I64.of_wf (hw c (by simp))⟩
  have all : ∃ m : List Toy, l = m.map Toy.cells3 ∧ ∀ a ∈ m, a.In := by
    clear h hr
    induction l with
    | nil => exact ⟨[], rfl, by simp⟩
    | cons r l ih =>
      obtain ⟨m, hm, hi⟩ := ih (fun r hr => key r (by simp [hr]))
      obtain ⟨a, ha, hai⟩ := key r (by simp)
      exact ⟨a :: m, by rw [ha, hm]; rfl, by intro b hb; rcases List.mem_cons.1 hb with rfl | hb; exact hai; exact hi b hb⟩
  obtain ⟨m, rfl, hi⟩ := all
  refine ⟨m, rfl, ?_, hi⟩
  unfold Go.Proofs.Ytldhbgefpfmkmaa.Rows at h
  rw [List.length_map] at h
  rcases h with h | ⟨b, off, hp, hb, hc⟩
  · exact .inl h
  · refine .inr ⟨b, off, hp, hb, fun j hj => ?_⟩
    rw [hc j hj]
    have hq : j / 3 < m.length := by omega
    have hm : j % 3 < 3 := Nat.mod_lt _ (by omega)
    simp only [List.getElem?_map, List.getElem?_eq_getElem hq, Option.map_some, Option.getD_some]
    generalize j % 3 = i at hm
    generalize m[j / 3] = a
    match i, hm with
    | 0, _ => rfl
    | 1, _ => rfl
    | 2, _ => rfl

section
variable {w : World} {q : Option Addr} {n : Nat} {bs : Nat → Option Nat} {T : Nat → Toy} {c : Nat}
set_option maxHeartbeats 1000000 in
set_option maxRecDepth 100000 in
theorem sched_run (u0 : Nat) (h : Tasks w q n bs T c u0) (hT : ∀ i, i < n → (T i).In ∧ 0 ≤ (T i).phase ∧ (T i).phase ≤ 1000) (hn : n ≤ 20) (hu : u0 ≤ 50000) (cap : Nat) (pq : Option Addr) (m pc : Nat) (P : List Int) (hP : P.length = m) (hm : m ≤ 1000) (hPI : ∀ x ∈ P, I64 x) (hs : Ints .i64 w pq P) (hpq : 0 < m → ∀ ad, pq = some ad → ¬ Tk.of n bs c ad.block) (hqb : ∀ k, w.heap.size ≤ k → ∀ ad, q = some ad → ad.block ≠ k) :
    Calls Try.prog 39 #[.slice q n cap, .slice pq m pc] w fun e w' => e = .returned (.agg #[.int .i64 ((Tk.at n u0 T P m).r : Nat), .slice (some ⟨w.heap.size + 2, 0, none⟩) n n, .bool (Tk.stuck n (Tk.at n u0 T P m).T (u0 + (Tk.at n u0 T P m).r))]) ∧
      Tasks w' q n bs (Tk.at n u0 T P m).T c (u0 + (Tk.at n u0 T P m).r) ∧ Turned (Tk.of n bs c) w w' ∧ w'.heap[w.heap.size + 2]? = some (.cells (intRow (Tk.at n u0 T P m).st) 3 (0, 0)) := by
  have hb1 := below1 w (.cells #[.int .i64 0, .slice none 0 0, .bool false] 81)
  have HW := sched_watch u0 (h.below hb1) hT hn hu cap pq m pc P hP hm hPI (Sl.below hs hb1) hpq (fun k hk => hqb k (by have := hb1.size; omega))
  have hlt := h.lt
  have hz : (w.alloc (.cells #[.int .i64 0, .slice none 0 0, .bool false] 81)).heap.size = w.heap.size + 1 := by simp
  rw [hz] at HW
  obtain ⟨s, es⟩ : ∃ s, s = Tk.at n u0 T P m := ⟨_, rfl⟩
  rw [← es] at HW ⊢
  obtain ⟨sk, esk⟩ : ∃ b, b = Tk.stuck n s.T (u0 + s.r) := ⟨_, rfl⟩
  rw [← esk] at HW ⊢
  have HW := Lib.hid HW
  have HK := Lib.hid (heap_alloc_at w (.cells #[.int .i64 0, .slice none 0 0, .bool false] 81) _ rfl)
  have HLT := Lib.hid hlt
  have HQB := Lib.hid hqb
  clear es esk h hT hs hpq hqb hlt hb1 hP hPI hz
  go_enter Try.func39, Try.ntmps39
  go_wp2_with fail
  (with_reducible refine HW.out.mono ?_)
  rintro e w1 ⟨rfl, hT1, ht1, h11⟩
  have k0 : w1.heap[w.heap.size]? = some (.cells #[.int .i64 0, .slice none 0 0, .bool false] 81 (0, 0)) := (ht1.block _ (by simp) (fun hh => by have := HLT.out _ hh; omega)).trans HK.out
  have K0 := Lib.hid k0
  have T1 := Lib.hid hT1
  have H11 := Lib.hid h11
  have TT := Lib.hid (((Turned.refl (S := Tk.of n bs c)).alloc _).trans ht1 (fun k _ h => h))
  clear hT1 ht1 h11 k0
  go_wp2_with ((with_reducible refine wpList_store_rowAs rfl 81 _ _ rfl (w.heap.size) #[.int .i64 (s.r : Nat), .slice (some ⟨w.heap.size + 2, 0, none⟩) n n, .bool sk] ?_ ?_ 81 #[.int .i64 0, .slice none 0 0, .bool false] 3 ?_ (by kernel_rfl) rfl rfl (by simp [Value.oneCell']) ?_); exact rfl; exact rfl; exact K0.out)
  have hT9 := turned_row27 w1 w.heap.size #[.int .i64 (s.r : Nat), .slice (some ⟨w.heap.size + 2, 0, none⟩) n n, .bool sk]
  refine bodyPost_ret (v := .agg #[.int .i64 (s.r : Nat), .slice (some ⟨w.heap.size + 2, 0, none⟩) n n, .bool sk]) ?_ ?_ ?_
  · exact results_cell_row rfl _ _ w.heap.size 81 #[.int .i64 (s.r : Nat), .slice (some ⟨w.heap.size + 2, 0, none⟩) n n, .bool sk] (0, 0) _ rfl (setRow_heap _ _ _ _ _ _ K0.out) Try.underlying81 rfl (by kernel_rfl)
  · rfl
  · exact ⟨rfl, T1.out.turned hT9 (fun k hk => by have e : k = w.heap.size := hk; subst e; exact ⟨fun hh => by have := HLT.out _ hh; omega, fun ad had => HQB.out _ (Nat.le_refl _) ad had⟩), TT.out.trans hT9 (fun k hk e => by have e2 : k = w.heap.size := e; omega), (setRow_other _ _ _ _ (by omega)).trans H11.out⟩
end

def Tk.bad (l : List Toy) : Nat → Bool
  | 0 => false
  | k + 1 => Tk.bad l k || (decide ((l[k]?.getD default).phase < 0) || decide (1000 < (l[k]?.getD default).phase) || decide (1000 < (l[k]?.getD default).left))
def Tk.few (l : List Toy) (m : Nat) : Bool := !Tk.bad l l.length && (decide (l.length ≤ 12) && decide (m ≤ 100))
theorem Tk.bad_up (l : List Toy) (n k : Nat) (h : Tk.bad l k = true) (hk : k ≤ n) : Tk.bad l n = true := by
  induction n with
  | zero => obtain rfl : k = 0 := by omega
            exact h
  | succ n ih =>
    by_cases e : k = n + 1
    · subst e; exact h
    · show (Tk.bad l n || _) = true
      rw [ih (by omega)]
      rfl
theorem Tk.few_of {l : List Toy} {m : Nat} (h : Tk.few l m = true) : l.length ≤ 12 ∧ m ≤ 100 ∧ ∀ i, i < l.length → 0 ≤ (l[i]?.getD default).phase ∧ (l[i]?.getD default).phase ≤ 1000 ∧ (l[i]?.getD default).left ≤ 1000 := by
  unfold Tk.few at h
  simp only [Bool.and_eq_true, Bool.not_eq_true', decide_eq_true_eq] at h
  refine ⟨h.2.1, h.2.2, fun i hi => ?_⟩
  cases hb : Tk.bad l (i + 1) with
  | true => have := Tk.bad_up l l.length (i + 1) hb hi; rw [this] at h; exact absurd h.1 (by simp)
  | false =>
    unfold Tk.bad at hb
    simp only [Bool.or_eq_false_iff, decide_eq_false_iff_not] at hb
    omega

set_option maxHeartbeats 1000000 in
set_option maxRecDepth 100000 in
theorem law27_few (q : Option Addr) (n cap : Nat) (l : List Toy) (en : l.length = n) (hb : n ≤ 9223372036854775807) (p : Option Addr) (m c2 : Nat) (hm : m ≤ 9223372036854775807) (w : World) (hs : Toys w q l) :
    Calls Try.prog 37 #[.slice q n cap, .slice p m c2] w fun e w' => e = .returned (.bool (Tk.few l m)) ∧ Below w.heap.size w w' := by
  have hd : Tk.few l m = (!Tk.bad l l.length && (decide (l.length ≤ 12) && decide (m ≤ 100))) := rfl
  obtain ⟨r, er⟩ : ∃ r, r = Tk.few l m := ⟨_, rfl⟩
  rw [← er] at hd ⊢
  rw [en] at hd
  have HS := Lib.hid hs
  have EN := Lib.hid en
  have HUP := Lib.hid (fun k hk => Tk.bad_up l n k hk)
  have HN := Lib.hid (fun k => show Tk.bad l (k + 1) = (Tk.bad l k || (decide ((l[k]?.getD default).phase < 0) || decide (1000 < (l[k]?.getD default).phase) || decide (1000 < (l[k]?.getD default).left))) from rfl)
  have H0 : Hid (Tk.bad l 0 = false) := rfl
  obtain ⟨bd, ebd⟩ : ∃ f, f = Tk.bad l := ⟨_, rfl⟩
  simp only [← ebd] at hd HUP HN H0
  have HD := Lib.hid hd
  clear er hs en ebd hd
  go_enter Try.func37, Try.ntmps37
  go_wp2
  go_loopw [9] (fun i wr => ∃ k : Nat, k ≤ n ∧ i = .int .i64 (k : Nat) ∧ bd k = false ∧ Below w.heap.size w wr) (fun i _ => n - (intOf i).toNat)
  case atStart => exact ⟨0, by omega, rfl, H0.out, Below.refl _ _⟩
  case round =>
    obtain ⟨k, hk, rfl, hz, hB⟩ := hrel
    by_cases hlt : k < n
    · have hkl : k < l.length := by have := EN.out; omega
      obtain ⟨bq, off, rfl, hbw, c0, c1, c2⟩ := (HS.out.below hB).cells k hkl
      have hn := HN.out k
      have hup := HUP.out (k + 1)
      rw [hz, Bool.false_or] at hn
      obtain ⟨⟨x0, x1, x2⟩, ex⟩ : ∃ x, x = l[k]?.getD default := ⟨_, rfl⟩
      rw [← ex] at c0 c1 c2 hn
      simp only at c0 c1 c2 hn
      have HB2 := Lib.hid (hB.alloc hB.size (.cells #[.int .i64 x0, .int .i64 x1, .int .i64 x2] 157))
      have k0 : (wr.alloc (.cells #[.int .i64 x0, .int .i64 x1, .int .i64 x2] 157)).cell? ⟨wr.heap.size, 0, none⟩ = some (.int .i64 x0) := by rw [cell_of_row _ _ _ _ _ _ (heap_alloc_at wr _ _ rfl)]; rfl
      have k2 : (wr.alloc (.cells #[.int .i64 x0, .int .i64 x1, .int .i64 x2] 157)).cell? ⟨wr.heap.size, 2, none⟩ = some (.int .i64 x2) := by rw [cell_of_row _ _ _ _ _ _ (heap_alloc_at wr _ _ rfl)]; rfl
      have hkn : (k : Int) < n := by omega
      have HUP2 := Lib.hid hup
      have HNN := Lib.hid hn
      have hbadr : Hid (bd (k + 1) = true → r = false) := fun h => by rw [HD.out, HUP2.out h (by omega)]; rfl
      clear hn hup ex hB hz
      by_cases h1 : x2 < 0
      · have HR := Lib.hid (hbadr.out (by rw [HNN.out, decide_eq_true h1]; simp))
        go_wp2
        go_ret
        exact ⟨ret_bool HR.out.symm, HB2.out⟩
      by_cases h2 : 1000 < x2
      · have HR := Lib.hid (hbadr.out (by rw [HNN.out, decide_eq_true h2]; simp))
        go_wp2
        go_ret
        exact ⟨ret_bool HR.out.symm, HB2.out⟩
      by_cases h3 : 1000 < x0
      · have HR := Lib.hid (hbadr.out (by rw [HNN.out, decide_eq_true h3]; simp))
        go_wp2
        go_ret
        exact ⟨ret_bool HR.out.symm, HB2.out⟩
      have HZ := Lib.hid (HNN.out.trans (by rw [decide_eq_false h1, decide_eq_false h2, decide_eq_false h3]; try rfl))
      go_wp2
      exact ⟨⟨k + 1, by omega, by go_num, HZ.out, HB2.out⟩, by simp [intOf]; omega⟩
    · obtain rfl : k = n := by omega
      have HB := Lib.hid hB
      have hr := HD.out
      rw [hz] at hr
      by_cases h1 : k ≤ 12
      · by_cases h2 : m ≤ 100
        · have HR : Hid (r = true) := by show r = true; rw [hr, decide_eq_true h1, decide_eq_true h2]; try rfl
          have d1 : decide ((k : Int) ≤ 12) = true := decide_eq_true (by omega)
          have d2 : decide ((m : Int) ≤ 100) = true := decide_eq_true (by omega)
          clear hr hz hB
          go_wp2
          go_ret
          exact ⟨ret_bool HR.out.symm, HB.out⟩
        · have HR : Hid (r = false) := by show r = false; rw [hr, decide_eq_true h1, decide_eq_false h2]; try rfl
          have d1 : decide ((k : Int) ≤ 12) = true := decide_eq_true (by omega)
          have d2 : decide ((m : Int) ≤ 100) = false := decide_eq_false (by omega)
          clear hr hz hB
          go_wp2
          go_ret
          exact ⟨ret_bool HR.out.symm, HB.out⟩
      · have HR : Hid (r = false) := by show r = false; rw [hr, decide_eq_false h1]; try rfl
        have d1 : decide ((k : Int) ≤ 12) = false := decide_eq_false (by omega)
        clear hr hz hB
        go_wp2
        go_ret
        exact ⟨ret_bool HR.out.symm, HB.out⟩
end Go.Proofs.Ytldhbgefpfmkmaa
