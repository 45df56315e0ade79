/- General lemmas of several texts, one after another. -/
import Derived.Test.YtapgcbjlgekpeaaJSamp
import Derived.Test.YtapgcbjlgekpeaaJBase
import Derived.Deep.MidRow
import Derived.Lib.AppendZerosOnto
import Derived.Lib.Overlaps
import Derived.Laws.Externs
import Derived.Deep.CutRange
import Derived.WalkSpells
/- A series as data: samples in the order of their ticks. -/
namespace Go.Proofs.Ytapgcbjlgekpeaa
open Go.ChangeShapes Go.WideShapes Go.ChangeAt Go.RowKit

def Ser.tk (L : List Samp) (k : Nat) : Int := (L[k]?.getD default).tick
def Ser.Sorted (L : List Samp) : Prop := ∀ i j, i < j → j < L.length → Ser.tk L i < Ser.tk L j
/-- Where a tick stands, or would. -/
def Ser.place (L : List Samp) (t : Int) : Nat := (L.takeWhile (fun a => decide (a.tick < t))).length
theorem Ser.place_le (L : List Samp) (t : Int) : Ser.place L t ≤ L.length := (List.takeWhile_sublist _).length_le
theorem Ser.place_lt : ∀ (L : List Samp) (t : Int) (j : Nat), j < Ser.place L t → Ser.tk L j < t
  | [], t, j, h => by simp [Ser.place] at h
  | a :: L, t, j, h => by
    unfold Ser.place at h
    rw [List.takeWhile_cons] at h
    split at h
    · rename_i ha
      cases j with
      | zero => exact of_decide_eq_true ha
      | succ j => exact Ser.place_lt L t j (by unfold Ser.place; simpa using h)
    · simp at h
theorem Ser.place_stop : ∀ (L : List Samp) (t : Int), Ser.place L t < L.length → t ≤ Ser.tk L (Ser.place L t)
  | [], t, h => by simp [Ser.place] at h
  | a :: L, t, h => by
    by_cases ha : a.tick < t
    · have e : Ser.place (a :: L) t = Ser.place L t + 1 := by unfold Ser.place; rw [List.takeWhile_cons, if_pos (decide_eq_true ha)]; rfl
      rw [e] at h ⊢
      exact Ser.place_stop L t (by simpa using h)
    · have e : Ser.place (a :: L) t = 0 := by unfold Ser.place; rw [List.takeWhile_cons, if_neg (by simpa using ha)]; rfl
      rw [e]
      show t ≤ a.tick
      omega
theorem Ser.place_of {L : List Samp} {t : Int} {i : Nat} (hi : i ≤ L.length) (h1 : ∀ j, j < i → Ser.tk L j < t) (h2 : i < L.length → t ≤ Ser.tk L i) : Ser.place L t = i := by
  have a := Ser.place_le L t
  by_cases h : Ser.place L t < i
  · have := Ser.place_stop L t (by omega)
    have := h1 _ h
    omega
  · by_cases h3 : i < Ser.place L t
    · have := Ser.place_lt L t i h3
      have := h2 (by omega)
      omega
    · omega
theorem Ser.Sorted.from {L : List Samp} (h : Ser.Sorted L) {t : Int} {i k : Nat} (h2 : t ≤ Ser.tk L i) (hk : i ≤ k) (hl : k < L.length) : t ≤ Ser.tk L k := by
  by_cases e : i = k
  · subst e; exact h2
  · have := h i k (by omega) hl; omega

def Ser.ins (L : List Samp) (x : Samp) : List Samp :=
  if Ser.place L x.tick < L.length ∧ Ser.tk L (Ser.place L x.tick) = x.tick then L.set (Ser.place L x.tick) x else L.take (Ser.place L x.tick) ++ x :: L.drop (Ser.place L x.tick)
def Ser.cutTo (room : Nat) (m : List Samp) : List Samp := if room < m.length then m.drop 1 else m
def Ser.put (L : List Samp) (room : Nat) (x : Samp) : List Samp := Ser.cutTo room (Ser.ins L x)
theorem Ser.ins_tk_new (L : List Samp) (x : Samp) (i k : Nat) (hi : i ≤ L.length) : Ser.tk (L.take i ++ x :: L.drop i) k = if k < i then Ser.tk L k else if k = i then x.tick else Ser.tk L (k - 1) := by
  have hl : (L.take i).length = i := by rw [List.length_take]; omega
  unfold Ser.tk
  by_cases h : k < i
  · rw [if_pos h, List.getElem?_append_left (by omega), List.getElem?_take_of_lt h]
  · rw [if_neg h, List.getElem?_append_right (by omega), hl]
    by_cases h2 : k = i
    · rw [if_pos h2, h2, Nat.sub_self]; rfl
    · rw [if_neg h2]
      obtain ⟨m, hm⟩ : ∃ m, k - i = m + 1 := ⟨k - i - 1, by omega⟩
      rw [hm]
      show (((x :: L.drop i)[m + 1]?).getD default).tick = _
      rw [List.getElem?_cons_succ, List.getElem?_drop, show i + m = k - 1 by omega]
theorem Ser.ins_sorted {L : List Samp} (h : Ser.Sorted L) (x : Samp) : Ser.Sorted (Ser.ins L x) := by
  have hp := Ser.place_le L x.tick
  have hlt := Ser.place_lt L x.tick
  have hst := Ser.place_stop L x.tick
  unfold Ser.ins
  split
  · rename_i he
    intro a b hab hb
    rw [List.length_set] at hb
    have key : ∀ k, k < L.length → Ser.tk (L.set (Ser.place L x.tick) x) k = Ser.tk L k := fun k hk => by
      unfold Ser.tk
      by_cases e : k = Ser.place L x.tick
      · rw [e, List.getElem?_set_self he.1]
        exact he.2.symm
      · rw [List.getElem?_set_ne (by omega)]
    rw [key a (by omega), key b hb]
    exact h a b hab hb
  · rename_i he
    intro a b hab hb
    rw [List.length_append, List.length_take, List.length_cons, List.length_drop] at hb
    rw [Ser.ins_tk_new L x _ a hp, Ser.ins_tk_new L x _ b hp]
    have hgt : Ser.place L x.tick < L.length → x.tick < Ser.tk L (Ser.place L x.tick) := fun h1 => by
      have := hst h1
      have : ¬ Ser.tk L (Ser.place L x.tick) = x.tick := fun e => he ⟨h1, e⟩
      omega
    by_cases h1 : b < Ser.place L x.tick
    · rw [if_pos (by omega), if_pos h1]; exact h a b hab (by omega)
    · rw [if_neg h1]
      by_cases h2 : b = Ser.place L x.tick
      · rw [if_pos (by omega), if_pos h2]; exact hlt a (by omega)
      · rw [if_neg h2]
        by_cases h3 : a < Ser.place L x.tick
        · rw [if_pos h3]; exact h a (b - 1) (by omega) (by omega)
        · rw [if_neg h3]
          by_cases h4 : a = Ser.place L x.tick
          · rw [if_pos h4]
            have := hgt (by omega)
            by_cases h5 : b - 1 = Ser.place L x.tick
            · rw [h5]; exact this
            · have := h _ (b - 1) (show Ser.place L x.tick < b - 1 by omega) (by omega); omega
          · rw [if_neg h4]; exact h (a - 1) (b - 1) (by omega) (by omega)
theorem Ser.drop_sorted {L : List Samp} (h : Ser.Sorted L) (n : Nat) : Ser.Sorted (L.drop n) := by
  intro a b hab hb
  rw [List.length_drop] at hb
  unfold Ser.tk
  rw [List.getElem?_drop, List.getElem?_drop]
  exact h (n + a) (n + b) (by omega) (by omega)
theorem Ser.put_sorted {L : List Samp} (h : Ser.Sorted L) (room : Nat) (x : Samp) : Ser.Sorted (Ser.put L room x) := by
  unfold Ser.put Ser.cutTo
  split
  · exact Ser.drop_sorted (Ser.ins_sorted h x) 1
  · exact Ser.ins_sorted h x
theorem Ser.nil_sorted : Ser.Sorted [] := fun _ _ _ h => by simp at h
theorem Ser.ins_length (L : List Samp) (x : Samp) : (Ser.ins L x).length ≤ L.length + 1 := by
  have hp := Ser.place_le L x.tick
  unfold Ser.ins
  split
  · rw [List.length_set]; omega
  · rw [List.length_append, List.length_take, List.length_cons, List.length_drop]; omega
theorem Ser.put_length {L : List Samp} {room : Nat} (hr : 1 ≤ room) (h : L.length ≤ room) (x : Samp) : (Ser.put L room x).length ≤ room := by
  have := Ser.ins_length L x
  unfold Ser.put Ser.cutTo
  split
  · rw [List.length_drop]; omega
  · omega
def Ser.code (x : Samp) : Int := if x.tick < 0 then 3 else if x.val < 0 then 4 else 0
theorem Ser.put_In {L : List Samp} (h : ∀ a ∈ L, a.In) (room : Nat) (x : Samp) (hx : x.In) : ∀ a ∈ Ser.put L room x, a.In := by
  have key : ∀ a ∈ Ser.ins L x, a.In := by
    intro a ha
    unfold Ser.ins at ha
    split at ha
    · rcases List.mem_or_eq_of_mem_set ha with h1 | h1
      · exact h a h1
      · exact h1 ▸ hx
    · rw [List.mem_append, List.mem_cons] at ha
      rcases ha with h1 | h1 | h1
      · exact h a (List.mem_of_mem_take h1)
      · exact h1 ▸ hx
      · exact h a (List.mem_of_mem_drop h1)
  intro a ha
  unfold Ser.put Ser.cutTo at ha
  split at ha
  · exact key a (List.mem_of_mem_drop ha)
  · exact key a ha
end Go.Proofs.Ytapgcbjlgekpeaa

/- copy and clear within slices, whatever the size of their elements. -/
namespace Go.Proofs.Ytapgcbjlgekpeaa
open Go.ChangeShapes Go.WideShapes Go.ChangeAt Go.RowKit

section
variable {P : Program}
theorem run_copy_sz (w : World) (dT sT ty elem : TypeId) (sz : Nat) (b o dLen dCap : Nat) (a : Addr) (sLen sCap m : Nat) (cs : List Value)
    (hu : P.underlying dT = some (.slice elem)) (hs : (P.info? elem).map (·.size) = some sz) (hm : m = Nat.min sLen dLen) (hn : cs.length = m * sz)
    (hsrc : ∀ j v, cs[j]? = some v → w.cell? (a.add j) = some v) (hd : w.there b o (m * sz)) (h1 : ∀ v ∈ cs, v.oneCell' = true) :
    (Builtin.copy_ #[dT, sT] ty #[.slice (some ⟨b, o, none⟩) dLen dCap, .slice (some a) sLen sCap]).run P w = .ok (goInt m) (w.setCells b o cs) := by
  have hl := run_loadCells_list (P := P) w a cs hsrc
  have hst := run_storeCells_cells (P := P) b o cs 0 w (by simpa using fun j hj => (hd j (by omega)).1) (by simpa using fun j hj => (hd j (by omega)).2) h1
  cases hq : P.info? elem with
  | none => simp [hq] at hs
  | some i =>
    have hi : i.size = sz := by simpa [hq] using hs
    rw [hn] at hl
    simp [Builtin.copy_, run_underlying hu, Builtin.lenOf, Builtin.firstCells, sizeOf, typeInfo, hq, hi, ← hm, hl, hst]
theorem run_clear_sz (w : World) (t e ty : TypeId) (z : Value) (zs : List Value) (ht : P.underlying t = some (.slice e)) (hv : ∀ w, (zeroValue e).run P w = .ok z w) (b o n c : Nat) (hn : 0 < n)
    (hz : (Builtin.zeroCells z.cells n).toList = zs) (h1 : ∀ v ∈ zs, v.oneCell' = true) (hd : w.there b o zs.length) :
    (Builtin.clear_ #[t] ty #[.slice (some ⟨b, o, none⟩) n c]).run P w = .ok (.tuple #[]) (w.setCells b o zs) := by
  have hst := run_storeCells_cells (P := P) b o zs 0 w (by simpa using fun j hj => (hd j hj).1) (by simpa using fun j hj => (hd j hj).2) h1
  simp only [Nat.add_zero] at hst
  obtain ⟨m, rfl⟩ : ∃ m, n = m + 1 := ⟨n - 1, by omega⟩
  simp [Builtin.clear_, run_underlying ht, hv, hz, hst]

variable {o : Oper} {a : Act} {w : World} {K : Act → World → Prop} {Q : Exit → Act → World → Prop} {ops : Array Oper} {rest : List Oper}
theorem wp_copy_eq (d s : Operand) (t t' : TypeId) (ho : o.op = .call { callee := .builtin .copy, args := #[d, s], argTypes := #[t, t'] }) (v u : Value) (hd : a.eval d = v) (hs : a.eval s = u) {v' : Value} {w' : World}
    (hr : ∀ ty, (Builtin.copy_ #[t, t'] ty #[v, u]).run P w = .ok v' w') (h : K (a.put o.dst v') w') : o.wp P a w K Q := by
  unfold Oper.wp execOp
  simp only [ho, resolve, invoke, builtin, Sem.run_bind, Sem.run_pure, Result.andThen_ok, List.map_toArray, List.map_cons, List.map_nil, hd, hs, hr]
  exact h
theorem wpList_copy_eq (hgd : o.guard = none) (d s : Operand) (t t' : TypeId) (ho : o.op = .call { callee := .builtin .copy, args := #[d, s], argTypes := #[t, t'] }) (v u : Value) (hd : a.eval d = v) (hs : a.eval s = u) {v' : Value} {w' : World}
    (hr : ∀ ty, (Builtin.copy_ #[t, t'] ty #[v, u]).run P w = .ok v' w') (h : wpList P ops Q rest (a.put o.dst v') w') : wpList P ops Q (o :: rest) a w :=
  wpList_plain hgd fun _ hK => wp_copy_eq d s t t' ho v u hd hs hr (hK _ _ h)
theorem wpList_clear_eq (hgd : o.guard = none) (s : Operand) (t : TypeId) (ho : o.op = .call { callee := .builtin .clear, args := #[s], argTypes := #[t] }) (u : Value) (hs : a.eval s = u) {v' : Value} {w' : World}
    (hr : ∀ ty, (Builtin.clear_ #[t] ty #[u]).run P w = .ok v' w') (h : wpList P ops Q rest (a.put o.dst v') w') : wpList P ops Q (o :: rest) a w := by
  refine wpList_plain hgd fun _ hK => ?_
  unfold Oper.wp execOp
  simp only [ho, resolve, invoke, builtin, Sem.run_bind, Sem.run_pure, Result.andThen_ok, List.map_toArray, List.map_cons, List.map_nil, hs, hr]
  exact hK _ _ h
end

/-- What lies in a row of which some cells were put anew. -/
theorem Owns.putAt {w : World} {B n g cap sz : Nat} {xs : List Value} {p : Option Addr} (h : Owns w B sz (.slice p n cap) n xs) (hg : (Value.slice p n cap).ownBlock = some g) (o : Nat) (us : List Value) (m : Nat) (hm : m ≤ cap) (hu : o + us.length ≤ cap * sz)
    (xs' : List Value) (hl : xs'.length = m * sz) (hx : ∀ i, i < m * sz → xs'[i]? = if o ≤ i ∧ i < o + us.length then us[i - o]? else xs[i]?) :
    Owns (w.setCells g o us) B sz (.slice p m cap) m xs' := by
  obtain ⟨hl0, h⟩ := h
  refine ⟨hl, ?_⟩
  rcases h with ⟨h1, h2⟩ | ⟨g', cap', h1, h2, h3, h4, h5, h6⟩
  · simp only [Value.slice.injEq] at h1
    rw [h1.1] at hg
    simp [Value.ownBlock] at hg
  · simp only [Value.slice.injEq] at h1
    obtain ⟨rfl, _, rfl⟩ := h1
    obtain rfl : g = g' := by simpa [Value.ownBlock] using hg.symm
    refine .inr ⟨g, cap, rfl, h2, Nat.lt_of_lt_of_le h3 (below_setCells g us o (Below.refl g w)).size, hm, fun i u hi => ?_, fun i hi => ⟨?_, ?_⟩⟩
    · have hil : i < m * sz := by rw [← hl]; exact (List.getElem?_eq_some_iff.1 hi).1
      rw [hx i hil] at hi
      by_cases hin : o ≤ i ∧ i < o + us.length
      · rw [if_pos hin] at hi
        have hlt : i - o < us.length := by omega
        have := World.cell?_setCells_in g us o w (fun k hk => (h6 _ (by omega)).1) (i - o) hlt
        rw [show o + (i - o) = i by omega] at this
        rw [this, ← hi, List.getElem?_eq_getElem hlt]
      · rw [if_neg hin] at hi
        rw [World.cell?_setCells_out g us _ w ⟨g, i, none⟩ (fun _ _ => by show i < _ ∨ _ ≤ i; omega)]
        exact h5 i u hi
    · exact isSome_setCells _ _ _ _ _ (h6 i hi).1
    · rw [World.frozen?_setCells]; exact (h6 i hi).2
theorem Owns.some_of {w : World} {B n sz : Nat} {v : Value} {xs : List Value} (h : Owns w B sz v n xs) (hn : 0 < n) : ∃ g cap, v = .slice (some ⟨g, 0, none⟩) n cap ∧ B ≤ g ∧ g < w.heap.size ∧ n ≤ cap ∧ (∀ j u, xs[j]? = some u → w.cell? ⟨g, j, none⟩ = some u) ∧ w.there g 0 (cap * sz) := by
  rcases h.2 with ⟨_, h2⟩ | ⟨g, cap, h1, h2, h3, h4, h5, h6⟩
  · omega
  · exact ⟨g, cap, h1, h2, h3, h4, h5, fun j hj => by rw [Nat.zero_add]; exact h6 j hj⟩
theorem heap_setCells_else (w : World) (b : Nat) (vs : List Value) (o k : Nat) (hk : k ≠ b) : (w.setCells b o vs).heap[k]? = w.heap[k]? := by
  induction vs generalizing w o with
  | nil => rfl
  | cons v r ih => exact (ih (w.setCell ⟨b, o, none⟩ v) (o + 1)).trans (Below.heap_setCell _ _ _ _ hk)
theorem turned_setCells (w : World) (g : Nat) (vs : List Value) (o : Nat) (S : Nat → Prop) (hS : S g) : Turned S w (w.setCells g o vs) := by
  induction vs generalizing w o with
  | nil => exact Turned.refl
  | cons v r ih => exact ((Turned.refl (S := S) (w := w)).setCell v (fun _ => hS)).trans (ih (w.setCell ⟨g, o, none⟩ v) (o + 1)) (fun _ _ h => h)
end Go.Proofs.Ytapgcbjlgekpeaa

/- slices.Insert of one sample. -/
namespace Go.Proofs.Ytapgcbjlgekpeaa
open Go.ChangeShapes Go.WideShapes Go.ChangeAt Go.RowKit

theorem ins_shift {α : Type} (xs : List α) (o i : Nat) (ho : o + 2 ≤ xs.length) : (xs.take (o + 2) ++ xs.drop o)[i]? = if o + 2 ≤ i ∧ i < o + 2 + (xs.drop o).length then (xs.drop o)[i - (o + 2)]? else if i < o + 2 then xs[i]? else none := by
  have hl : (xs.take (o + 2)).length = o + 2 := by rw [List.length_take]; omega
  by_cases h : i < o + 2
  · rw [if_neg (by omega), if_pos h, List.getElem?_append_left (by omega), List.getElem?_take_of_lt h]
  · rw [List.getElem?_append_right (by omega), hl]
    by_cases h2 : i < o + 2 + (xs.drop o).length
    · rw [if_pos ⟨by omega, h2⟩]
    · rw [if_neg (by omega), if_neg h, List.getElem?_eq_none (by omega)]
theorem ins_put {α : Type} (xs us : List α) (o i : Nat) (ho : o + 2 ≤ xs.length) (hu : us.length = 2) : (xs.take o ++ us ++ xs.drop o)[i]? = if o ≤ i ∧ i < o + 2 then us[i - o]? else (xs.take (o + 2) ++ xs.drop o)[i]? := by
  have hl : (xs.take o).length = o := by rw [List.length_take]; omega
  have hl2 : (xs.take (o + 2)).length = o + 2 := by rw [List.length_take]; omega
  rw [List.append_assoc]
  by_cases h : i < o
  · rw [if_neg (by omega), List.getElem?_append_left (by omega), List.getElem?_append_left (by omega), List.getElem?_take_of_lt h, List.getElem?_take_of_lt (by omega)]
  · rw [List.getElem?_append_right (by omega), hl]
    by_cases h2 : i < o + 2
    · rw [if_pos ⟨by omega, h2⟩, List.getElem?_append_left (by omega)]
    · rw [if_neg (by omega), List.getElem?_append_right (by omega), List.getElem?_append_right (by omega), hl2, hu, show i - o - 2 = i - (o + 2) by omega]

/-- What a call that made a slice longer leaves. -/
def Longer (w : World) (B : Nat) (v : Value) (m : Nat) (ys : List Value) (e : Ending) (w' : World) : Prop :=
  ∃ v', e = .returned v' ∧ Owns w' B 2 v' m ys ∧ Turned (fun k => v.ownBlock = some k) w w' ∧ (v'.ownBlock = v.ownBlock ∨ ∀ k, v'.ownBlock = some k → w.heap.size ≤ k)

set_option maxHeartbeats 1000000 in
set_option maxRecDepth 100000 in
theorem insert_end (B : Nat) (v : Value) (n : Nat) (xs : List Value) (X : Nat) (x : Samp) (hn : n ≤ 100000) (w : World) (hO : Owns w B 2 v n xs) (hB : B ≤ w.heap.size) (hX : w.heap[X]? = some (.cells #[.int .i64 x.tick, .int .i64 x.val] 23 (0, 0))) :
    Calls Try.prog 170 #[v, .int .i64 n, .slice (some ⟨X, 0, none⟩) 1 1] w (Longer w B v (n + 1) (xs ++ sampVals [x])) := by
  obtain ⟨pv, cv, rfl, hcv, _⟩ := hO.sl
  have O := Lib.hid hO
  have HC : Hid (∀ ad, (some ⟨X, 0, none⟩ : Option Addr) = some ad → ∀ j u, (sampVals [x])[j]? = some u → w.cell? (ad.add j) = some u) := fun ad had j u hu => by
    cases had
    rw [Addr.add_mid, Nat.zero_add, cell_of_row _ _ _ _ _ _ hX]
    simpa [sampVals] using hu
  clear hO hX
  rcases Decidable.em (cv = n) with rfl | hcc
  · go_enter Try.func170, Try.ntmps170
    go_wp2_with (at_builtin; refine wpList_append_any2 rfl _ _ 37 rfl B 23 (.agg #[.int .i64 0, .int .i64 0]) 2 16 Try.underlying37 sampInfo rfl (by decide) _ _ _ rfl O.out _ _ _ (sampVals [x]) rfl rfl (fun h => by cases h) HC.out (sampVals_one [x]) (by unfold maxLen; omega) (by omega) hB ?_; intro u1 x1 ha1 hg1 hw1)
    go_ret
    exact ⟨_, rfl, ha1, (Turned.refl (S := fun k => (Value.slice pv cv cv).ownBlock = some k)).grown hg1 (fun k hk _ => hk), hw1⟩
  · go_enter Try.func170, Try.ntmps170
    go_wp2_with (at_builtin; refine wpList_append_any2 rfl _ _ 37 rfl B 23 (.agg #[.int .i64 0, .int .i64 0]) 2 16 Try.underlying37 sampInfo rfl (by decide) _ _ _ rfl O.out _ _ _ (sampVals [x]) rfl rfl (fun h => by cases h) HC.out (sampVals_one [x]) (by unfold maxLen; omega) (by omega) hB ?_; intro u1 x1 ha1 hg1 hw1)
    go_ret
    exact ⟨_, rfl, ha1, (Turned.refl (S := fun k => (Value.slice pv n cv).ownBlock = some k)).grown hg1 (fun k hk _ => hk), hw1⟩

theorem shape_of_cell {w : World} {b o : Nat} {v : Value} (h : w.cell? ⟨b, o, none⟩ = some v) : ∃ T k, w.shape? b = some (T, k) ∧ k ≠ 0 := by
  unfold World.cell? at h
  unfold World.shape?
  cases hb : w.heap[b]? with
  | none => simp [hb] at h
  | some ob =>
    cases ob <;> simp [hb] at h ⊢
    rename_i cs T fr
    refine ⟨_, _, ⟨rfl, rfl⟩, fun h0 => ?_⟩
    simp [Array.getElem?_eq_none (show cs.size ≤ o by omega)] at h

set_option maxHeartbeats 2000000 in
set_option maxRecDepth 100000 in
theorem insert_shift (B g c n i : Nat) (xs : List Value) (X : Nat) (x : Samp) (hn : n ≤ 100000) (hi : i < n) (hroom : n + 1 ≤ c) (w : World) (hO : Owns w B 2 (.slice (some ⟨g, 0, none⟩) n c) n xs) (h1 : ∀ u ∈ xs, u.oneCell' = true) (_hB : B ≤ w.heap.size) (hX : w.heap[X]? = some (.cells #[.int .i64 x.tick, .int .i64 x.val] 23 (0, 0))) (hXg : X ≠ g) :
    Calls Try.prog 170 #[.slice (some ⟨g, 0, none⟩) n c, .int .i64 i, .slice (some ⟨X, 0, none⟩) 1 1] w (Longer w B (.slice (some ⟨g, 0, none⟩) n c) (n + 1) (xs.take (i * 2) ++ sampVals [x] ++ xs.drop (i * 2))) := by
  obtain ⟨g', c', e, hBg, hgw, _, hcell, hth⟩ := hO.some_of (by omega)
  simp only [Value.slice.injEq, Option.some.injEq, Addr.mk.injEq, and_true, true_and] at e
  obtain ⟨rfl, rfl⟩ := e
  have hlx : xs.length = n * 2 := hO.1
  obtain ⟨T1, k1, hs1, hk1⟩ := shape_of_cell (hcell 0 _ (List.getElem?_eq_getElem (by omega)))
  have hov : Hid (∀ lb cb, (callFunc 191 #[.slice (some ⟨X, 0, none⟩) 1 1, .slice (some ⟨g, (i + 1) * 2, none⟩) lb cb]).run Try.prog w = .ok (.value (.bool false)) w) := fun lb cb => by
    rw [run_callFunc_extern Try.func191 (by kernel_rfl) (by kernel_rfl) (by kernel_rfl) (e := Extern.SlicesOverlaps.overlaps #[37, 37] #[4]) (by kernel_rfl),
      Lib.run_overlaps_apart w 37 4 23 Try.underlying37 2 (fun w => by kernel_rfl) ⟨X, 0, none⟩ ⟨g, (i + 1) * 2, none⟩ 1 1 lb cb hXg 23 T1 2 k1 (by simp [World.shape?, hX]) hs1 hk1 (frozen_of_row _ _ 0 _ _ hX) (frozen_of_row _ _ 2 _ _ hX)]
    rfl
  have hsz : (Try.prog.info? 23).map (·.size) = some 2 := by kernel_rfl
  obtain ⟨ys, eys⟩ : ∃ ys, ys = xs.take (i * 2) ++ sampVals [x] ++ xs.drop (i * 2) := ⟨_, rfl⟩
  have EY := Lib.hid eys
  rw [← eys]
  clear eys
  have O := Lib.hid hO
  have KX := Lib.hid hX
  have H1 := Lib.hid h1
  have HLX := Lib.hid hlx
  have z1 : IntKind.i64.wrap ((i : Int) + 1) = (i : Int) + 1 := by rw [IntKind.wrap_i64]; omega
  have z2 : ¬ (i : Int) = (n : Int) := by omega
  have z3 : ((i : Int) == (n : Int)) = false := beq_eq_false_iff_ne.2 z2
  have z4 : ¬ (c : Int) < (n : Int) + 1 := by omega
  have z5 : (0 : Int) ≤ (i : Int) + 1 := by omega
  have z6 : ((i : Int) + 1).toNat = i + 1 := by omega
  have z7 : ¬ c = i + 1 := by omega
  have z8 : ¬ c = i := by omega
  have z9 : (i : Int) + 1 ≤ (n : Int) + 1 := by omega
  have z10 : (i : Int) ≤ (n : Int) := by omega
  have z11 : (i : Int) ≤ (n : Int) + 1 := by omega
  have z12 : i ≤ n + 1 := by omega
  have hst := stab_and (stab_owns (B := B) (sz := 2) (v := .slice (some ⟨g, 0, none⟩) n c) (n := n) (xs := xs)) (stab_and (stab_heap X (.cells #[.int .i64 x.tick, .int .i64 x.val] 23 (0, 0))) (stab_turned (S := fun k => k = g) (w := w)))
  clear hO hX h1 hs1 hcell hth hlx
  go_enter Try.func170, Try.ntmps170
  go_wp2_with (simp only [hov.out])
  refine wp_region_E mixed [8] hst ⟨O.out.below (below_drew (Below.refl _ _)), KX.out, (Turned.refl (S := fun k => k = g)).drewN 1⟩ ?_
  refine wpAnyE_take 0 rfl (by kernel_rfl) (by kernel_rfl) (by kernel_rfl) (fun _ _ _ h => h) hst (EffB.pure rfl (fun _ => rfl)) (.inr (EffB.pure rfl (fun _ => rfl))) ?_
  simp only [act_norm]
  refine wpAnyE_take 1 rfl (by kernel_rfl) (by kernel_rfl) (by kernel_rfl) (fun _ _ _ h => h) hst (EffB.pure rfl (fun _ => rfl)) (.inr (EffB.pure rfl (fun _ => rfl))) ?_
  simp only [act_norm]
  refine wpAnyE_take 2 rfl (by kernel_rfl) (by kernel_rfl) (by kernel_rfl) (fun _ _ _ h => h) hst (EffB.pure rfl (fun _ => rfl)) (.inr (EffB.pure rfl (fun _ => rfl))) ?_
  simp only [act_norm]
  refine wpAnyE_take 3 (v := .int .i64 ((i : Int) + 1)) rfl (by kernel_rfl) (by kernel_rfl) (by kernel_rfl) (fun _ _ _ h => h) hst (EffB.run rfl rfl (fun wd hS => ?_)) (.inr (EffB.run rfl rfl (fun wd hS => ?_))) ?_
  · (go_wp2; exact ⟨rfl, Below.refl _ _⟩)
  · (go_wp2; exact ⟨rfl, Below.refl _ _⟩)
  simp only [act_norm]
  refine wpAnyE_take 4 (v := .slice (some ⟨g, (i + 1) * 2, none⟩) (n - i) (c - (i + 1))) rfl (by kernel_rfl) (by kernel_rfl) (by kernel_rfl) (fun _ _ _ h => h) hst (EffB.run rfl rfl (fun wd hS => ?_)) (.inr (EffB.run rfl rfl (fun wd hS => ?_))) ?_
  · (go_wp2; exact ⟨rfl, Below.refl _ _⟩)
  · (go_wp2; exact ⟨rfl, Below.refl _ _⟩)
  simp only [act_norm]
  refine wpAnyE_take 5 rfl (by kernel_rfl) (by kernel_rfl) (by kernel_rfl) (fun _ _ _ h => h) hst (EffB.pure rfl (fun _ => rfl)) (.inr (EffB.pure rfl (fun _ => rfl))) ?_
  simp only [act_norm]
  refine wpAnyE_take 6 rfl (by kernel_rfl) (by kernel_rfl) (by kernel_rfl) (fun _ _ _ h => h) hst (EffB.pure rfl (fun _ => rfl)) (.inr (EffB.pure rfl (fun _ => rfl))) ?_
  simp only [act_norm]
  refine wpAnyE_take 7 (v := .slice (some ⟨g, i * 2, none⟩) (n + 1 - i) (c - i)) rfl (by kernel_rfl) (by kernel_rfl) (by kernel_rfl) (fun _ _ _ h => h) hst (EffB.run rfl rfl (fun wd hS => ?_)) (.inr (EffB.run rfl rfl (fun wd hS => ?_))) ?_
  · (go_wp2; exact ⟨rfl, Below.refl _ _⟩)
  · (go_wp2; exact ⟨rfl, Below.refl _ _⟩)
  simp only [act_norm]
  refine wpAnyE_one 8 rfl (by kernel_rfl) rfl (fun wd hS => ?_)
  obtain ⟨g', c', e, hBg', hgw', hnc', hcell, hth⟩ := hS.1.some_of (by omega)
  simp only [Value.slice.injEq, Option.some.injEq, Addr.mk.injEq, and_true, true_and] at e
  obtain ⟨rfl, rfl⟩ := e
  have hlx := HLX.out
  have hdl : (xs.drop (i * 2)).length = (n - i) * 2 := by rw [List.length_drop]; omega
  have hcp := fun ty => run_copy_sz (P := Try.prog) wd 37 37 ty 23 2 g ((i + 1) * 2) (n - i) (c - (i + 1)) ⟨g, i * 2, none⟩ (n + 1 - i) (c - i) (n - i) (xs.drop (i * 2)) Try.underlying37 hsz (by simp only [Nat.min_def]; split <;> omega) hdl
    (fun j v hj => by rw [Addr.add_mid]; exact hcell _ _ (by rwa [List.getElem?_drop] at hj)) (fun j hj => by have := hth ((i + 1) * 2 + j) (by omega); rwa [Nat.zero_add] at this) (fun v hv => H1.out v (List.mem_of_mem_drop hv))
  refine wp_copy_eq _ _ 37 37 rfl _ _ rfl rfl hcp ?_
  have hO1 : Owns (wd.setCells g ((i + 1) * 2) (xs.drop (i * 2))) B 2 (.slice (some ⟨g, 0, none⟩) (n + 1) c) (n + 1) (xs.take (i * 2 + 2) ++ xs.drop (i * 2)) := by
    refine hS.1.putAt rfl _ _ (n + 1) hroom (by rw [hdl]; omega) _ (by rw [List.length_append, List.length_take, hdl]; omega) (fun k hk => ?_)
    have := ins_shift xs (i * 2) k (by omega)
    rw [show (i + 1) * 2 = i * 2 + 2 by omega, this]
    by_cases h1 : i * 2 + 2 ≤ k ∧ k < i * 2 + 2 + (xs.drop (i * 2)).length
    · rw [if_pos h1, if_pos h1]
    · rw [if_neg h1, if_neg h1, if_pos (by omega)]
  have hX1 : (wd.setCells g ((i + 1) * 2) (xs.drop (i * 2))).heap[X]? = some (.cells #[.int .i64 x.tick, .int .i64 x.val] 23 (0, 0)) := (heap_setCells_else _ _ _ _ _ hXg).trans hS.2.1
  have hT1 := hS.2.2.trans (turned_setCells wd g (xs.drop (i * 2)) ((i + 1) * 2) (fun k => k = g) rfl) (fun _ _ h => h)
  have hst2 := stab_and (stab_owns (B := B) (sz := 2) (v := .slice (some ⟨g, 0, none⟩) (n + 1) c) (n := n + 1) (xs := xs.take (i * 2 + 2) ++ xs.drop (i * 2))) (stab_and (stab_heap X (.cells #[.int .i64 x.tick, .int .i64 x.val] 23 (0, 0))) (stab_turned (S := fun k => k = g) (w := w)))
  refine ⟨_, ⟨hO1, hX1, hT1⟩, hst2, .inl (by decide), ?_⟩
  clear hS hcell hth hcp hO1 hX1 hT1 hBg' hgw' hnc' hst
  try simp only [act_norm]
  refine wpAnyE_done (by kernel_rfl) (fun wd hS => ?_) _
  obtain ⟨g', c', e, _, hgw', _, hcell, hth⟩ := hS.1.some_of (by omega)
  simp only [Value.slice.injEq, Option.some.injEq, Addr.mk.injEq, and_true, true_and] at e
  obtain ⟨rfl, rfl⟩ := e
  have hcp : Hid (∀ ty, (Builtin.copy_ #[37, 37] ty #[.slice (some ⟨g, i * 2, none⟩) (n + 1 - i) (c - i), .slice (some ⟨X, 0, none⟩) 1 1]).run Try.prog wd = .ok (goInt 1) (wd.setCells g (i * 2) (sampVals [x]))) := fun ty => run_copy_sz (P := Try.prog) wd 37 37 ty 23 2 g (i * 2) (n + 1 - i) (c - i) ⟨X, 0, none⟩ 1 1 1 (sampVals [x]) Try.underlying37 hsz (by simp only [Nat.min_def]; split <;> omega) rfl
    (fun j v hj => by rw [Addr.add_mid, Nat.zero_add, cell_of_row _ _ _ _ _ _ hS.2.1]; simpa [sampVals] using hj) (fun j hj => by have := hth (i * 2 + j) (by omega); rwa [Nat.zero_add] at this) (sampVals_one [x])
  have HS := Lib.hid hS
  have hO2 : Owns (wd.setCells g (i * 2) (sampVals [x])) B 2 (.slice (some ⟨g, 0, none⟩) (n + 1) c) (n + 1) ys := by
    refine hS.1.putAt rfl _ _ (n + 1) hroom (by show i * 2 + 2 ≤ c * 2; omega) _ (by rw [EY.out, List.length_append, List.length_append, List.length_take, hdl]; show min (i * 2) xs.length + 2 + _ = _; omega) (fun k hk => ?_)
    rw [EY.out]
    exact ins_put xs (sampVals [x]) (i * 2) k (by omega) rfl
  have HO2 := Lib.hid hO2
  have HT2 := Lib.hid (hS.2.2.trans (turned_setCells wd g (sampVals [x]) (i * 2) (fun k => k = g) rfl) (fun _ _ h => h))
  obtain ⟨W, hW⟩ : ∃ W, W = wd.setCells g (i * 2) (sampVals [x]) := ⟨_, rfl⟩
  rw [← hW] at hcp HO2 HT2
  clear hS hcell hth hO2 hW hgw' hst2
  go_wp2_with (simp only [hcp.out])
  go_ret
  exact ⟨_, rfl, HO2.out, HT2.out.mono (fun k _ h => by rw [h]; rfl), .inl rfl⟩
end Go.Proofs.Ytapgcbjlgekpeaa

/- slices.Insert of one sample where there is no room. -/
namespace Go.Proofs.Ytapgcbjlgekpeaa
open Go.ChangeShapes Go.WideShapes Go.ChangeAt Go.RowKit

theorem splice_get {α : Type} (L us : List α) (o k : Nat) (h : o + us.length ≤ L.length) : (L.take o ++ us ++ L.drop (o + us.length))[k]? = if o ≤ k ∧ k < o + us.length then us[k - o]? else L[k]? := by
  have hl : (L.take o).length = o := by rw [List.length_take]; omega
  rw [List.append_assoc]
  by_cases h1 : k < o
  · rw [if_neg (by omega), List.getElem?_append_left (by omega), List.getElem?_take_of_lt h1]
  · rw [List.getElem?_append_right (by omega), hl]
    by_cases h2 : k < o + us.length
    · rw [if_pos ⟨by omega, h2⟩, List.getElem?_append_left (by omega)]
    · rw [if_neg (by omega), List.getElem?_append_right (by omega), List.getElem?_drop]
      congr 1
      omega
theorem ins_grown {α : Type} (xs us zl : List α) (o k : Nat) (ho : o + 2 ≤ xs.length) (hu : us.length = 2) (hz : zl.length = xs.length - o + 2) (hk : k < xs.length + 2) :
    (xs.take o ++ us ++ xs.drop o)[k]? = if o + 2 ≤ k ∧ k < o + 2 + (xs.drop o).length then (xs.drop o)[k - (o + 2)]? else ((xs.take o ++ zl).take o ++ us ++ (xs.take o ++ zl).drop (o + us.length))[k]? := by
  have hl : (xs.take o).length = o := by rw [List.length_take]; omega
  have hd : (xs.drop o).length = xs.length - o := List.length_drop
  rw [splice_get _ _ _ _ (by rw [List.length_append, hl, hu, hz]; omega), hu, List.append_assoc]
  by_cases h1 : k < o
  · rw [if_neg (by omega), if_neg (by omega), List.getElem?_append_left (by omega), List.getElem?_append_left (by omega)]
  · rw [List.getElem?_append_right (by omega), hl]
    by_cases h2 : k < o + 2
    · rw [if_neg (by omega), if_pos ⟨by omega, h2⟩, List.getElem?_append_left (by omega)]
    · rw [if_pos (by omega), List.getElem?_append_right (by omega), hu, show k - o - 2 = k - (o + 2) by omega]
theorem zeroCells_size2 (n : Nat) : (Builtin.zeroCells #[.int .i64 0, .int .i64 0] n).size = n * 2 := by
  unfold Builtin.zeroCells
  simp

set_option maxHeartbeats 2000000 in
set_option maxRecDepth 100000 in
theorem insert_grow (B g c n i : Nat) (xs : List Value) (X : Nat) (x : Samp) (hn : n ≤ 100000) (hi : i < n) (hroom : c < n + 1) (w : World) (hO : Owns w B 2 (.slice (some ⟨g, 0, none⟩) n c) n xs) (h1 : ∀ u ∈ xs, u.oneCell' = true) (hB : B ≤ w.heap.size) (hX : w.heap[X]? = some (.cells #[.int .i64 x.tick, .int .i64 x.val] 23 (0, 0))) :
    Calls Try.prog 170 #[.slice (some ⟨g, 0, none⟩) n c, .int .i64 i, .slice (some ⟨X, 0, none⟩) 1 1] w (Longer w B (.slice (some ⟨g, 0, none⟩) n c) (n + 1) (xs.take (i * 2) ++ sampVals [x] ++ xs.drop (i * 2))) := by
  obtain ⟨g', c', e, hBg, hgw, hnc, hcell, hth⟩ := hO.some_of (by omega)
  simp only [Value.slice.injEq, Option.some.injEq, Addr.mk.injEq, and_true, true_and] at e
  obtain ⟨rfl, rfl⟩ := e
  obtain rfl : c = n := by omega
  have hlx : xs.length = c * 2 := hO.1
  obtain ⟨i0, hi0, hz0, hzs, hzb⟩ := info_parts sampInfo
  have hold : (Builtin.firstCells i0.size i (.slice (some ⟨g, 0, none⟩) i c)).run Try.prog w.drew = .ok (xs.take (i * 2)).toArray w.drew := by
    rw [hzs]
    exact run_firstCells_some w.drew 2 i ⟨g, 0, none⟩ i c (xs.take (i * 2)) (by rw [List.length_take]; omega) (fun j v hj => by
      rw [Addr.add_mid, Nat.zero_add]
      rw [List.getElem?_take] at hj
      split at hj
      · exact hcell j v hj
      · cases hj)
  have hkk : (c : Int) + 1 - (i : Int) = ((c + 1 - i : Nat) : Int) := by omega
  have hik : i + (c + 1 - i) = c + 1 := by omega
  have hrz : ∀ ty, (Builtin.append_ #[37, 3] ty #[.slice (some ⟨g, 0, none⟩) i c, .int .i64 ((c : Int) + 1 - (i : Int))]).run Try.prog w =
      .ok (.slice (some ⟨w.heap.size, 0, none⟩) (c + 1) (grownCap w (c + 1) c 23)) (w.drew.alloc (.cells ((xs.take (i * 2)).toArray ++ Builtin.zeroCells #[.int .i64 0, .int .i64 0] (c + 1 - i) ++ Builtin.zeroCells #[.int .i64 0, .int .i64 0] (grownCap w (c + 1) c 23 - (c + 1))) 23)) := fun ty => by
    have h := Lib.run_append_grow_zeros (P := Try.prog) w 37 3 ty 23 i0 (.agg #[.int .i64 0, .int .i64 0]) .i64 .i64 Try.underlying37 Try.underlying3 hi0 hz0 (some ⟨g, 0, none⟩) i c (xs.take (i * 2)) hold (c + 1 - i) (by omega) (by rw [hzs]; decide) (by omega) (by omega) (by rw [hzb]; omega) (by rw [hzb, hik]; exact growslice_fits (by omega) (by omega))
    rw [hik] at h
    rw [hkk]
    exact h
  have hG1 := grownCap_ge w (c + 1) c 23
  have hG2 := grownCap_le_maxLen w (c + 1) c 23 (by unfold maxLen; omega)
  unfold maxLen at hG2
  obtain ⟨G, hG⟩ : ∃ G, G = grownCap w (c + 1) c 23 := ⟨_, rfl⟩
  rw [← hG] at hG1 hG2
  simp only [← hG] at hrz
  obtain ⟨zl, ezl⟩ : ∃ zl, zl = (Builtin.zeroCells #[.int .i64 0, .int .i64 0] (c + 1 - i)).toList := ⟨_, rfl⟩
  have hzl : zl.length = (c + 1 - i) * 2 := by rw [ezl, Array.length_toList, zeroCells_size2]
  obtain ⟨W1, hW1⟩ : ∃ W1, W1 = (w.drew.alloc (.cells ((xs.take (i * 2)).toArray ++ Builtin.zeroCells #[.int .i64 0, .int .i64 0] (c + 1 - i) ++ Builtin.zeroCells #[.int .i64 0, .int .i64 0] (G - (c + 1))) 23)) := ⟨_, rfl⟩
  simp only [← hW1] at hrz
  have hrow : W1.heap[w.heap.size]? = some (.cells ((xs.take (i * 2)).toArray ++ Builtin.zeroCells #[.int .i64 0, .int .i64 0] (c + 1 - i) ++ Builtin.zeroCells #[.int .i64 0, .int .i64 0] (G - (c + 1))) 23 (0, 0)) := by rw [hW1]; exact heap_alloc_at _ _ _ rfl
  have hO1 : Owns W1 w.heap.size 2 (.slice (some ⟨w.heap.size, 0, none⟩) (c + 1) G) (c + 1) (xs.take (i * 2) ++ zl) := by
    refine ⟨by rw [List.length_append, List.length_take, hzl]; omega, .inr ⟨w.heap.size, G, rfl, Nat.le_refl _, lt_of_heap hrow, hG1, fun j u hu => ?_, fun j hj => ⟨?_, frozen_of_row _ _ _ _ _ hrow⟩⟩⟩
    · rw [cell_of_row _ _ _ _ _ _ hrow]
      have hjl := (List.getElem?_eq_some_iff.1 hu).1
      rw [Array.getElem?_append_left (by rw [Array.size_append, List.size_toArray, zeroCells_size2]; rw [List.length_append, hzl] at hjl; exact hjl)]
      rw [← hu, ezl]
      simp [Array.getElem?_append, List.getElem?_append]
    · rw [cell_of_row _ _ _ _ _ _ hrow, Array.getElem?_eq_getElem (by rw [Array.size_append, Array.size_append, List.size_toArray, zeroCells_size2, zeroCells_size2, List.length_take]; omega)]
      rfl
  have hT1 : Turned (fun k => (Value.slice (some ⟨g, 0, none⟩) c c).ownBlock = some k) w W1 := by rw [hW1]; exact ((Turned.refl).drewN 1).alloc _
  have hsz : (Try.prog.info? 23).map (·.size) = some 2 := by kernel_rfl
  have hX1 : W1.heap[X]? = some (.cells #[.int .i64 x.tick, .int .i64 x.val] 23 (0, 0)) := by rw [hW1]; exact (heap_alloc_past _ _ _ (lt_of_heap hX)).trans hX
  have hg1 : Owns W1 B 2 (.slice (some ⟨g, 0, none⟩) c c) c xs := hO.same hT1.size (fun k hk => by cases hk; rw [hW1]; exact heap_alloc_past _ _ _ hgw)
  have hth1 := (hO1.some_of (by omega)).choose_spec.choose_spec
  obtain ⟨gN, cN, eN, _, _, _, hcN, htN⟩ := hO1.some_of (by omega)
  simp only [Value.slice.injEq, Option.some.injEq, Addr.mk.injEq, and_true, true_and] at eN
  obtain ⟨rfl, rfl⟩ := eN
  have hcA : ∀ ty, (Builtin.copy_ #[37, 37] ty #[.slice (some ⟨w.heap.size, i * 2, none⟩) (c + 1 - i) (G - i), .slice (some ⟨X, 0, none⟩) 1 1]).run Try.prog W1 = .ok (goInt 1) (W1.setCells w.heap.size (i * 2) (sampVals [x])) := fun ty => run_copy_sz (P := Try.prog) W1 37 37 ty 23 2 w.heap.size (i * 2) (c + 1 - i) (G - i) ⟨X, 0, none⟩ 1 1 1 (sampVals [x]) Try.underlying37 hsz (by simp only [Nat.min_def]; split <;> omega) rfl
    (fun j v hj => by rw [Addr.add_mid, Nat.zero_add, cell_of_row _ _ _ _ _ _ hX1]; simpa [sampVals] using hj) (fun j hj => by have := htN (i * 2 + j) (by omega); rwa [Nat.zero_add] at this) (sampVals_one [x])
  obtain ⟨W2, hW2⟩ : ∃ W2, W2 = W1.setCells w.heap.size (i * 2) (sampVals [x]) := ⟨_, rfl⟩
  simp only [← hW2] at hcA
  have hO2 : Owns W2 w.heap.size 2 (.slice (some ⟨w.heap.size, 0, none⟩) (c + 1) G) (c + 1) ((xs.take (i * 2) ++ zl).take (i * 2) ++ sampVals [x] ++ (xs.take (i * 2) ++ zl).drop (i * 2 + (sampVals [x]).length)) := by
    rw [hW2]
    have hll : (xs.take (i * 2) ++ zl).length = (c + 1) * 2 := hO1.1
    refine hO1.putAt rfl _ _ (c + 1) hG1 (by show i * 2 + 2 ≤ _; omega) _ (by rw [List.length_append, List.length_append, List.length_take, List.length_drop, hll]; show min (i * 2) ((c + 1) * 2) + 2 + ((c + 1) * 2 - (i * 2 + 2)) = _; omega) (fun k hk => ?_)
    exact splice_get _ _ _ _ (by rw [hll]; show i * 2 + 2 ≤ _; omega)
  have hT2 : Turned (fun k => (Value.slice (some ⟨g, 0, none⟩) c c).ownBlock = some k) w W2 := by rw [hW2]; exact hT1.trans (turned_setCells W1 w.heap.size _ _ (fun k => k = w.heap.size) rfl) (fun k hk e => absurd hk (by have h : k = w.heap.size := e; omega))
  have hg2 : Owns W2 B 2 (.slice (some ⟨g, 0, none⟩) c c) c xs := hg1.same (by rw [hW2]; exact (turned_setCells W1 w.heap.size _ _ (fun k => k = w.heap.size) rfl).size) (fun k hk => by cases hk; rw [hW2]; exact heap_setCells_else _ _ _ _ _ (by show g ≠ w.heap.size; omega))
  obtain ⟨L1, eL1⟩ : ∃ L, L = (xs.take (i * 2) ++ zl).take (i * 2) ++ sampVals [x] ++ (xs.take (i * 2) ++ zl).drop (i * 2 + (sampVals [x]).length) := ⟨_, rfl⟩
  have hys : ∀ k, k < xs.length + 2 → (xs.take (i * 2) ++ sampVals [x] ++ xs.drop (i * 2))[k]? = if i * 2 + 2 ≤ k ∧ k < i * 2 + 2 + (xs.drop (i * 2)).length then (xs.drop (i * 2))[k - (i * 2 + 2)]? else L1[k]? := fun k hk => by
    rw [eL1]
    exact ins_grown xs (sampVals [x]) zl (i * 2) k (by omega) rfl (by omega) hk
  rw [← eL1] at hO2
  have hysl : (xs.take (i * 2) ++ sampVals [x] ++ xs.drop (i * 2)).length = (c + 1) * 2 := by rw [List.length_append, List.length_append, List.length_take, List.length_drop]; show min (i * 2) xs.length + 2 + _ = _; omega
  obtain ⟨ys, eys⟩ : ∃ ys, ys = xs.take (i * 2) ++ sampVals [x] ++ xs.drop (i * 2) := ⟨_, rfl⟩
  rw [← eys] at hysl ⊢
  simp only [← eys] at hys
  have HRZ := Lib.hid hrz
  have HCA := Lib.hid hcA
  have O2 := Lib.hid hO2
  have G2 := Lib.hid hg2
  have T2 := Lib.hid hT2
  have H1 := Lib.hid h1
  have HYS := Lib.hid hys
  have HYL := Lib.hid hysl
  have HLX := Lib.hid hlx
  obtain ⟨N, eN⟩ : ∃ N, N = w.heap.size := ⟨_, rfl⟩
  have hst := stab_and (stab_owns (B := w.heap.size) (sz := 2) (v := .slice (some ⟨w.heap.size, 0, none⟩) (c + 1) G) (n := c + 1) (xs := L1)) (stab_and (stab_owns (B := B) (sz := 2) (v := .slice (some ⟨g, 0, none⟩) c c) (n := c) (xs := xs)) (stab_turned (S := fun k => (Value.slice (some ⟨g, 0, none⟩) c c).ownBlock = some k) (w := w)))
  have z2 : ¬ (i : Int) = (c : Int) := by omega
  have z3 : ((i : Int) == (c : Int)) = false := beq_eq_false_iff_ne.2 z2
  have z4 : (c : Int) < (c : Int) + 1 := by omega
  have z5 : (0 : Int) ≤ (i : Int) + 1 := by omega
  have z6 : ((i : Int) + 1).toNat = i + 1 := by omega
  have z7 : ¬ G = i + 1 := by omega
  have z8 : ¬ G = i := by omega
  have z9 : (i : Int) + 1 ≤ (c : Int) + 1 := by omega
  have z10 : (i : Int) ≤ (c : Int) := by omega
  have z11 : (i : Int) ≤ (c : Int) + 1 := by omega
  have z12 : i ≤ c + 1 := by omega
  have z13 : ¬ c = i := by omega
  have hgN := hgw
  clear hrz hcA hO2 hg2 hT2 h1 hys hysl hlx hO1 hT1 hX1 hg1 hth1 hcN htN hW2 hW1 hrow ezl hzl hG hold hi0 hz0 hzs hzb hcell hth hO hX eL1 eys hkk hik eN N
  go_enter Try.func170, Try.ntmps170
  go_wp2_with (first | (at_builtin; refine Lib.wpList_append_run _ rfl _ _ _ _ rfl _ _ rfl rfl _ _ (HRZ.out _) ?_) | simp only [HCA.out])
  refine wp_region_E mixed [8] hst ⟨O2.out.below (below_drew (Below.refl _ _)), G2.out.below (below_drew (Below.refl _ _)), T2.out.drewN 1⟩ ?_
  refine wpAnyE_take 0 rfl (by kernel_rfl) (by kernel_rfl) (by kernel_rfl) (fun _ _ _ h => h) hst (EffB.pure rfl (fun _ => rfl)) (.inr (EffB.pure rfl (fun _ => rfl))) ?_
  simp only [act_norm]
  refine wpAnyE_take 1 rfl (by kernel_rfl) (by kernel_rfl) (by kernel_rfl) (fun _ _ _ h => h) hst (EffB.pure rfl (fun _ => rfl)) (.inr (EffB.pure rfl (fun _ => rfl))) ?_
  simp only [act_norm]
  refine wpAnyE_take 2 rfl (by kernel_rfl) (by kernel_rfl) (by kernel_rfl) (fun _ _ _ h => h) hst (EffB.pure rfl (fun _ => rfl)) (.inr (EffB.pure rfl (fun _ => rfl))) ?_
  simp only [act_norm]
  refine wpAnyE_take 3 (v := .int .i64 ((i : Int) + 1)) rfl (by kernel_rfl) (by kernel_rfl) (by kernel_rfl) (fun _ _ _ h => h) hst (EffB.run rfl rfl (fun wd hS => ?_)) (.inr (EffB.run rfl rfl (fun wd hS => ?_))) ?_
  · (go_wp2; exact ⟨rfl, Below.refl _ _⟩)
  · (go_wp2; exact ⟨rfl, Below.refl _ _⟩)
  simp only [act_norm]
  refine wpAnyE_take 4 (v := .slice (some ⟨w.heap.size, (i + 1) * 2, none⟩) (c - i) (G - (i + 1))) rfl (by kernel_rfl) (by kernel_rfl) (by kernel_rfl) (fun _ _ _ h => h) hst (EffB.run rfl rfl (fun wd hS => ?_)) (.inr (EffB.run rfl rfl (fun wd hS => ?_))) ?_
  · (go_wp2; exact ⟨rfl, Below.refl _ _⟩)
  · (go_wp2; exact ⟨rfl, Below.refl _ _⟩)
  simp only [act_norm]
  refine wpAnyE_take 5 rfl (by kernel_rfl) (by kernel_rfl) (by kernel_rfl) (fun _ _ _ h => h) hst (EffB.pure rfl (fun _ => rfl)) (.inr (EffB.pure rfl (fun _ => rfl))) ?_
  simp only [act_norm]
  refine wpAnyE_take 6 rfl (by kernel_rfl) (by kernel_rfl) (by kernel_rfl) (fun _ _ _ h => h) hst (EffB.pure rfl (fun _ => rfl)) (.inr (EffB.pure rfl (fun _ => rfl))) ?_
  simp only [act_norm]
  refine wpAnyE_take 7 (v := .slice (some ⟨g, i * 2, none⟩) (c - i) (c - i)) rfl (by kernel_rfl) (by kernel_rfl) (by kernel_rfl) (fun _ _ _ h => h) hst (EffB.run rfl rfl (fun wd hS => ?_)) (.inr (EffB.run rfl rfl (fun wd hS => ?_))) ?_
  · (go_wp2; exact ⟨rfl, Below.refl _ _⟩)
  · (go_wp2; exact ⟨rfl, Below.refl _ _⟩)
  simp only [act_norm]
  refine wpAnyE_one 8 rfl (by kernel_rfl) rfl (fun wd hS => ?_)
  obtain ⟨gN, cN, eN, _, _, hnN, _, htN⟩ := hS.1.some_of (by omega)
  simp only [Value.slice.injEq, Option.some.injEq, Addr.mk.injEq, and_true, true_and] at eN
  obtain ⟨rfl, rfl⟩ := eN
  obtain ⟨g', c', e, _, _, _, hcell, _⟩ := hS.2.1.some_of (by omega)
  simp only [Value.slice.injEq, Option.some.injEq, Addr.mk.injEq, and_true, true_and] at e
  obtain ⟨rfl, _⟩ := e
  have hlx := HLX.out
  have hdl : (xs.drop (i * 2)).length = (c - i) * 2 := by rw [List.length_drop]; omega
  have hcp := fun ty => run_copy_sz (P := Try.prog) wd 37 37 ty 23 2 w.heap.size ((i + 1) * 2) (c - i) (G - (i + 1)) ⟨g, i * 2, none⟩ (c - i) (c - i) (c - i) (xs.drop (i * 2)) Try.underlying37 hsz (by simp only [Nat.min_def]; split <;> omega) hdl
    (fun j v hj => by rw [Addr.add_mid]; exact hcell _ _ (by rwa [List.getElem?_drop] at hj)) (fun j hj => by have := htN ((i + 1) * 2 + j) (by omega); rwa [Nat.zero_add] at this) (fun v hv => H1.out v (List.mem_of_mem_drop hv))
  refine wp_copy_eq _ _ 37 37 rfl _ _ rfl rfl hcp ?_
  have hO3 : Owns (wd.setCells w.heap.size ((i + 1) * 2) (xs.drop (i * 2))) w.heap.size 2 (.slice (some ⟨w.heap.size, 0, none⟩) (c + 1) G) (c + 1) ys := by
    refine hS.1.putAt rfl _ _ (c + 1) hnN (by rw [hdl]; omega) _ HYL.out (fun k hk => ?_)
    rw [show (i + 1) * 2 = i * 2 + 2 by omega]
    exact HYS.out k (by omega)
  have hT3 := hS.2.2.trans (turned_setCells wd w.heap.size (xs.drop (i * 2)) ((i + 1) * 2) (fun k => k = w.heap.size) rfl) (fun k hk e => absurd hk (by have h : k = w.heap.size := e; omega))
  have hst2 := stab_and (stab_owns (B := w.heap.size) (sz := 2) (v := .slice (some ⟨w.heap.size, 0, none⟩) (c + 1) G) (n := c + 1) (xs := ys)) (stab_turned (S := fun k => (Value.slice (some ⟨g, 0, none⟩) c c).ownBlock = some k) (w := w))
  refine ⟨_, ⟨hO3, hT3⟩, hst2, .inl (by decide), ?_⟩
  clear hS hcell htN hcp hO3 hT3 hst
  try simp only [act_norm]
  refine wpAnyE_done (by kernel_rfl) (fun wd hS => ?_) _
  have HS := Lib.hid hS
  clear hS
  go_wp2
  go_ret
  exact ⟨_, rfl, HS.out.1.mono hB, HS.out.2, .inr (fun k hk => by have h : some w.heap.size = some k := hk; injection h with h; omega)⟩

/-- One sample put into a slice. -/
theorem insert_samp (B : Nat) (v : Value) (n i : Nat) (xs : List Value) (X : Nat) (x : Samp) (hn : n ≤ 100000) (hi : i ≤ n) (w : World) (hO : Owns w B 2 v n xs) (h1 : ∀ u ∈ xs, u.oneCell' = true) (hB : B ≤ w.heap.size) (hX : w.heap[X]? = some (.cells #[.int .i64 x.tick, .int .i64 x.val] 23 (0, 0))) (hXg : v.ownBlock ≠ some X) :
    Calls Try.prog 170 #[v, .int .i64 i, .slice (some ⟨X, 0, none⟩) 1 1] w (Longer w B v (n + 1) (xs.take (i * 2) ++ sampVals [x] ++ xs.drop (i * 2))) := by
  by_cases h : i = n
  · subst h
    have hl := hO.1
    rw [List.take_of_length_le (by omega), List.drop_of_length_le (by omega), List.append_nil]
    exact insert_end B v i xs X x hn w hO hB hX
  · obtain ⟨g, c, rfl, _, _, _⟩ := hO.some_of (by omega)
    by_cases h2 : n + 1 ≤ c
    · exact insert_shift B g c n i xs X x hn (by omega) h2 w hO h1 hB hX (fun e => hXg (by rw [e]; rfl))
    · exact insert_grow B g c n i xs X x hn (by omega) (by omega) w hO h1 hB hX
end Go.Proofs.Ytapgcbjlgekpeaa

/- slices.Delete of the first samples. -/
namespace Go.Proofs.Ytapgcbjlgekpeaa
open Go.ChangeShapes Go.WideShapes Go.ChangeAt Go.RowKit

section
variable {P : Program} {o : Oper} {a : Act} {w : World} {K : Act → World → Prop} {Q : Exit → Act → World → Prop}
theorem wp_append_eq (d s : Operand) (t t' : TypeId) (ho : o.op = .call { callee := .builtin .append, args := #[d, s], argTypes := #[t, t'] }) (v u : Value) (hd : a.eval d = v) (hs : a.eval s = u) {v' : Value} {w' : World}
    (hr : ∀ ty, (Builtin.append_ #[t, t'] ty #[v, u]).run P w = .ok v' w') (h : K (a.put o.dst v') w') : o.wp P a w K Q := by
  unfold Oper.wp execOp
  simp only [ho, resolve, invoke, builtin, Sem.run_bind, Sem.run_pure, Result.andThen_ok, List.map_toArray, List.map_cons, List.map_nil, hd, hs, hr]
  exact h
end
theorem zeroCells_all (n : Nat) : ∀ v ∈ (Builtin.zeroCells #[.int .i64 0, .int .i64 0] n).toList, v = .int .i64 0 := by
  unfold Builtin.zeroCells
  simp only [Array.toList_map, List.mem_map]
  rintro v ⟨i, _, rfl⟩
  have : i % 2 = 0 ∨ i % 2 = 1 := by omega
  show (#[Value.int .i64 0, Value.int .i64 0] : Array Value)[i % 2]! = _
  rcases this with h | h <;> rw [h] <;> rfl

set_option maxHeartbeats 2000000 in
set_option maxRecDepth 100000 in
theorem delete_head (B g c d j : Nat) (xs : List Value) (hn : d + j ≤ 100000) (hj : 1 ≤ j) (hcj : ¬ c = j) (w : World) (hO : Owns w B 2 (.slice (some ⟨g, 0, none⟩) (d + j) c) (d + j) xs) (h1 : ∀ u ∈ xs, u.oneCell' = true) :
    Calls Try.prog 171 #[.slice (some ⟨g, 0, none⟩) (d + j) c, .int .i64 0, .int .i64 j] w fun e w' =>
      e = .returned (.slice (some ⟨g, 0, none⟩) d c) ∧ Owns w' B 2 (.slice (some ⟨g, 0, none⟩) d c) d (xs.drop (j * 2)) ∧ Turned (fun k => k = g) w w' := by
  obtain ⟨g', c', e, _, _, hnc, _, _⟩ := hO.some_of (by omega)
  simp only [Value.slice.injEq, Option.some.injEq, Addr.mk.injEq, and_true, true_and] at e
  obtain ⟨rfl, rfl⟩ := e
  obtain ⟨i0, hi0, hz0, hzs, hzb⟩ := info_parts sampInfo
  have hlx : xs.length = (d + j) * 2 := hO.1
  have hdl : (xs.drop (j * 2)).length = d * 2 := by rw [List.length_drop]; omega
  have O := Lib.hid hO
  have H1 := Lib.hid h1
  have HLX := Lib.hid hlx
  have HDL := Lib.hid hdl
  have hsz : (Try.prog.info? 23).map (·.size) = some 2 := by kernel_rfl
  have HI := Lib.hid (And.intro hi0 hzs)
  have hst := stab_and (stab_owns (B := B) (sz := 2) (v := .slice (some ⟨g, 0, none⟩) (d + j) c) (n := d + j) (xs := xs)) (stab_turned (S := fun k => k = g) (w := w))
  have HAP : Hid (∀ wd : World, Owns wd B 2 (.slice (some ⟨g, 0, none⟩) (d + j) c) (d + j) xs → ∀ (o sc : Nat) (_ : d = 0 ∨ o = j * 2) (ty : TypeId), (Builtin.append_ #[37, 37] ty #[.slice (some ⟨g, 0, none⟩) 0 c, .slice (some ⟨g, o, none⟩) d sc]).run Try.prog wd = .ok (.slice (some ⟨g, 0, none⟩) d c) (wd.setCells g 0 (xs.drop (j * 2)))) := by
    intro wd hw o sc ho ty
    obtain ⟨g', c', e, _, _, _, hcell, hth⟩ := hw.some_of (by omega)
    simp only [Value.slice.injEq, Option.some.injEq, Addr.mk.injEq, and_true, true_and] at e
    obtain ⟨rfl, rfl⟩ := e
    have hrun := run_append_room_cells (P := Try.prog) wd 37 ty 23 i0 Try.underlying37 hi0 g 0 0 c ⟨g, o, none⟩ d sc (xs.drop (j * 2)) (by rw [hzs]; exact hdl)
      (fun k v hk => by
        rw [Addr.add_mid]
        have hkl := (List.getElem?_eq_some_iff.1 hk).1
        have ho2 : o = j * 2 := by rcases ho with h | h; omega; exact h
        rw [ho2]
        exact hcell _ _ (by rwa [List.getElem?_drop] at hk))
      (fun v hv => h1 v (List.mem_of_mem_drop hv)) (by omega) (fun k hk => by have := (hth (0 + 0 * i0.size + k) (by omega)).1; rwa [Nat.zero_add] at this) (fun k hk => by have := (hth (0 + 0 * i0.size + k) (by omega)).2; rwa [Nat.zero_add] at this)
    rw [Nat.zero_mul, Nat.zero_add, Nat.zero_add] at hrun
    exact hrun
  have HO2 : Hid (∀ wd : World, Owns wd B 2 (.slice (some ⟨g, 0, none⟩) (d + j) c) (d + j) xs → Owns (wd.setCells g 0 (xs.drop (j * 2))) B 2 (.slice (some ⟨g, 0, none⟩) (d + j) c) (d + j) (xs.drop (j * 2) ++ xs.drop (d * 2))) := by
    intro wd hw
    refine hw.putAt rfl 0 _ (d + j) hnc (by rw [hdl]; omega) _ (by rw [List.length_append, hdl, List.length_drop]; omega) (fun k hk => ?_)
    by_cases h : k < d * 2
    · rw [if_pos (by omega), List.getElem?_append_left (by omega)]; rfl
    · rw [if_neg (by omega), List.getElem?_append_right (by omega), hdl, List.getElem?_drop]
      congr 1
      omega
  obtain ⟨zs, ezs⟩ : ∃ zs, zs = (Builtin.zeroCells #[.int .i64 0, .int .i64 0] j).toList := ⟨_, rfl⟩
  have hzl : zs.length = j * 2 := by rw [ezs, Array.length_toList, zeroCells_size2]
  have hz1 : ∀ v ∈ zs, v.oneCell' = true := fun v hv => by rw [zeroCells_all j v (by rw [← ezs]; exact hv)]; rfl
  have HCL : Hid (∀ wd : World, Owns wd B 2 (.slice (some ⟨g, 0, none⟩) (d + j) c) (d + j) (xs.drop (j * 2) ++ xs.drop (d * 2)) → ∀ sc ty, (Builtin.clear_ #[37] ty #[.slice (some ⟨g, d * 2, none⟩) j sc]).run Try.prog wd = .ok (.tuple #[]) (wd.setCells g (d * 2) zs)) := by
    intro wd hw sc ty
    obtain ⟨g', c', e, _, _, _, hcell, hth⟩ := hw.some_of (by omega)
    simp only [Value.slice.injEq, Option.some.injEq, Addr.mk.injEq, and_true, true_and] at e
    obtain ⟨rfl, rfl⟩ := e
    exact run_clear_sz (P := Try.prog) wd 37 23 ty (.agg #[.int .i64 0, .int .i64 0]) zs Try.underlying37 (fun w => by kernel_rfl) g (d * 2) j sc (by omega) ezs.symm hz1 (fun k hk => by have := hth (d * 2 + k) (by omega); rwa [Nat.zero_add] at this)
  have HO3 : Hid (∀ wd : World, Owns wd B 2 (.slice (some ⟨g, 0, none⟩) (d + j) c) (d + j) (xs.drop (j * 2) ++ xs.drop (d * 2)) → Owns (wd.setCells g (d * 2) zs) B 2 (.slice (some ⟨g, 0, none⟩) d c) d (xs.drop (j * 2))) := by
    intro wd hw
    refine hw.putAt rfl (d * 2) zs d (by omega) (by omega) _ hdl (fun k hk => ?_)
    rw [if_neg (by omega), List.getElem?_append_left (by omega)]
  have z1 : (0 : Int) ≤ (d : Int) + j := by omega
  have z2 : ¬ (0 : Int) = (j : Int) := by omega
  have z3 : ((0 : Int) == (j : Int)) = false := beq_eq_false_iff_ne.2 z2
  have z4 : (j : Int) ≤ (d : Int) + j := by omega
  have z5 : d + j ≤ c := hnc
  have z6 : (d : Int) ≤ (d : Int) + j := by omega
  have z7 : ¬ c = d := by omega
  have z8 : (0 : Int) ≤ (j : Int) := by omega
  clear hO h1 hlx hdl hi0 hz0 hzs hzb ezs hz1 hzl
  go_enter Try.func171, Try.ntmps171
  go_wp2_with fail
  refine wp_region_E mixed [6] hst ⟨O.out.below (below_drew (Below.refl _ _)), (Turned.refl (S := fun k => k = g)).drewN 1⟩ ?_
  refine wpAnyE_take 0 rfl (by kernel_rfl) (by kernel_rfl) (by kernel_rfl) (fun _ _ _ h => h) hst (EffB.pure rfl (fun _ => rfl)) (.inr (EffB.pure rfl (fun _ => rfl))) ?_
  simp only [act_norm]
  refine wpAnyE_take 1 rfl (by kernel_rfl) (by kernel_rfl) (by kernel_rfl) (fun _ _ _ h => h) hst (EffB.pure rfl (fun _ => rfl)) (.inr (EffB.pure rfl (fun _ => rfl))) ?_
  simp only [act_norm]
  refine wpAnyE_take 2 (v := .slice (some ⟨g, 0, none⟩) 0 c) rfl (by kernel_rfl) (by kernel_rfl) (by kernel_rfl) (fun _ _ _ h => h) hst (EffB.run rfl rfl (fun wd hS => ?_)) (.inr (EffB.run rfl rfl (fun wd hS => ?_))) ?_
  · (go_wp2; exact ⟨rfl, Below.refl _ _⟩)
  · (go_wp2; exact ⟨rfl, Below.refl _ _⟩)
  simp only [act_norm]
  refine wpAnyE_take 3 rfl (by kernel_rfl) (by kernel_rfl) (by kernel_rfl) (fun _ _ _ h => h) hst (EffB.pure rfl (fun _ => rfl)) (.inr (EffB.pure rfl (fun _ => rfl))) ?_
  simp only [act_norm]
  refine wpAnyE_take 4 rfl (by kernel_rfl) (by kernel_rfl) (by kernel_rfl) (fun _ _ _ h => h) hst (EffB.pure rfl (fun _ => rfl)) (.inr (EffB.pure rfl (fun _ => rfl))) ?_
  simp only [act_norm]
  refine wpAnyE_take 5 (v := .slice (some ⟨g, j * 2, none⟩) d (c - j)) rfl (by kernel_rfl) (by kernel_rfl) (by kernel_rfl) (fun _ _ _ h => h) hst (EffB.run rfl rfl (fun wd hS => ?_)) (.inr (EffB.run rfl rfl (fun wd hS => ?_))) ?_
  · (go_wp2; exact ⟨rfl, Below.refl _ _⟩)
  · (go_wp2; exact ⟨rfl, Below.refl _ _⟩)
  simp only [act_norm]
  refine wpAnyE_one 6 rfl (by kernel_rfl) rfl (fun wd hS => ?_)
  refine wp_append_eq _ _ 37 37 rfl _ _ rfl rfl (HAP.out wd hS.1 _ _ (.inr rfl)) ?_
  have hO2 := HO2.out wd hS.1
  have hT2 := hS.2.trans (turned_setCells wd g (xs.drop (j * 2)) 0 (fun k => k = g) rfl) (fun _ _ h => h)
  have hst2 := stab_and (stab_owns (B := B) (sz := 2) (v := .slice (some ⟨g, 0, none⟩) (d + j) c) (n := d + j) (xs := xs.drop (j * 2) ++ xs.drop (d * 2))) (stab_turned (S := fun k => k = g) (w := w))
  refine ⟨_, ⟨hO2, hT2⟩, hst2, .inl (by decide), ?_⟩
  clear hS hO2 hT2 hst
  try simp only [act_norm]
  have hst := hst2
  refine wpAnyE_take 7 rfl (by kernel_rfl) (by kernel_rfl) (by kernel_rfl) (fun _ _ _ h => h) hst (EffB.pure rfl (fun _ => rfl)) (.inr (EffB.pure rfl (fun _ => rfl))) ?_
  simp only [act_norm]
  refine wpAnyE_done (by kernel_rfl) (fun wd hS => ?_) _
  have HC := Lib.hid (HCL.out wd hS.1)
  have HO := Lib.hid (HO3.out wd hS.1)
  have HT := Lib.hid (hS.2.trans (turned_setCells wd g zs (d * 2) (fun k => k = g) rfl) (fun _ _ h => h))
  obtain ⟨W, hW⟩ : ∃ W, W = wd.setCells g (d * 2) zs := ⟨_, rfl⟩
  rw [← hW] at HC HO HT
  clear hS hW hst2
  go_wp2_with (simp only [HC.out])
  go_ret
  exact ⟨rfl, HO.out, HT.out⟩
end Go.Proofs.Ytapgcbjlgekpeaa

/- A series: its place for a tick. -/
namespace Go.Proofs.Ytapgcbjlgekpeaa
open Go.ChangeShapes Go.WideShapes Go.ChangeAt Go.RowKit

/-- A series that has L, in order. -/
structure SerAt (w : World) (B s : Nat) (v : Value) (room : Nat) (L : List Samp) : Prop where
  low : B ≤ s
  row : w.heap[s]? = some (.cells #[.int .i64 room, v] 201 (0, 0))
  owns : Owns w B 2 v L.length (sampVals L)
  apart : v.ownBlock ≠ some s
  room1 : 1 ≤ room
  room2 : room ≤ 256
  len : L.length ≤ room
  sorted : Ser.Sorted L
section
variable {w w' : World} {B s : Nat} {v : Value} {room : Nat} {L : List Samp}
theorem SerAt.lt (h : SerAt w B s v room L) : s < w.heap.size := lt_of_heap h.row
theorem SerAt.below (h : SerAt w B s v room L) (hb : Below w.heap.size w w') : SerAt w' B s v room L := ⟨h.low, (hb.block _ h.lt).trans h.row, h.owns.below hb, h.apart, h.room1, h.room2, h.len, h.sorted⟩
theorem SerAt.same (h : SerAt w B s v room L) (hs : w.heap.size ≤ w'.heap.size) (h1 : w'.heap[s]? = w.heap[s]?) (h2 : ∀ k, v.ownBlock = some k → w'.heap[k]? = w.heap[k]?) : SerAt w' B s v room L :=
  ⟨h.low, h1.trans h.row, h.owns.same hs h2, h.apart, h.room1, h.room2, h.len, h.sorted⟩
theorem SerAt.turned {S : Nat → Prop} (h : SerAt w B s v room L) (hb : Turned S w w') (h1 : ¬ S s) (h2 : ∀ k, v.ownBlock = some k → ¬ S k) : SerAt w' B s v room L :=
  h.same hb.size (hb.block _ h.lt h1) (fun k hk => hb.block _ (h.owns.lt k hk).2 (h2 k hk))
theorem stab_ser : Stab (fun w' => SerAt w' B s v room L) := fun _ _ h hb => h.below hb
theorem SerAt.cell0 (h : SerAt w B s v room L) : w.cell? ⟨s, 0, none⟩ = some (.int .i64 room) := by rw [cell_of_row _ _ _ _ _ _ h.row]; rfl
theorem SerAt.cell1 (h : SerAt w B s v room L) : w.cell? ⟨s, 1, none⟩ = some v := by rw [cell_of_row _ _ _ _ _ _ h.row]; rfl
theorem SerAt.free (h : SerAt w B s v room L) (j : Nat) : w.frozen? ⟨s, j, none⟩ = false := frozen_of_row _ _ _ _ _ h.row
theorem SerAt.lift {B' : Nat} (h : SerAt w B s v room L) (hB : B' ≤ B) : SerAt w B' s v room L := ⟨Nat.le_trans hB h.low, h.row, h.owns.mono hB, h.apart, h.room1, h.room2, h.len, h.sorted⟩
theorem SerAt.samps (h : SerAt w B s v room L) : ∃ p cap, v = .slice p L.length cap ∧ L.length ≤ cap ∧ Samps w p L := samps_of_owns h.owns
end

theorem ser_new_no (room : Int) (h : room < 1 ∨ 256 < room) (w : World) : Calls Try.prog 77 #[.int .i64 room] w fun e w' => e = .returned (.pointer none) ∧ w = w' := by
  by_cases h1 : room < 1
  · clear h
    go_enter Try.func77, Try.ntmps77
    go_wp2
    go_ret
    exact ⟨rfl, rfl⟩
  · have h2 : 256 < room := by omega
    clear h
    go_enter Try.func77, Try.ntmps77
    go_wp2
    go_ret
    exact ⟨rfl, rfl⟩
theorem ser_new (room : Nat) (h1 : 1 ≤ room) (h2 : room ≤ 256) (w : World) : Calls Try.prog 77 #[.int .i64 room] w fun e w' => ∃ s, e = .returned (.pointer (some ⟨s, 0, none⟩)) ∧ SerAt w' w.heap.size s (.slice none 0 0) room [] ∧ Below w.heap.size w w' := by
  go_enter Try.func77, Try.ntmps77
  go_wp2
  go_ret
  exact ⟨_, rfl, ⟨Nat.le_refl _, heap_alloc_at _ _ _ rfl, owns_nil _ _ _, by simp [Value.ownBlock], h1, h2, by simp, Ser.nil_sorted⟩, below1 _ _⟩
theorem ser_right (x : Samp) (w : World) : Calls Try.prog 98 #[.int .i64 x.tick, .int .i64 x.val] w fun e w' => e = .returned (.int .i64 (Ser.code x)) ∧ w = w' := by
  have H : Hid (Ser.code x = if x.tick < 0 then 3 else if x.val < 0 then 4 else 0) := rfl
  obtain ⟨c, ec⟩ : ∃ c, c = Ser.code x := ⟨_, rfl⟩
  rw [← ec] at H ⊢
  clear ec
  by_cases h1 : x.tick < 0
  · have e : c = 3 := H.out.trans (if_pos h1)
    have E := Lib.hid e
    clear H e
    go_enter Try.func98, Try.ntmps98
    go_wp2
    go_ret
    exact ⟨by rw [E.out]; rfl, rfl⟩
  · by_cases h2 : x.val < 0
    · have e : c = 4 := H.out.trans ((if_neg h1).trans (if_pos h2))
      have E := Lib.hid e
      clear H e
      go_enter Try.func98, Try.ntmps98
      go_wp2
      go_ret
      exact ⟨by rw [E.out]; rfl, rfl⟩
    · have e : c = 0 := H.out.trans ((if_neg h1).trans (if_neg h2))
      have E := Lib.hid e
      clear H e
      go_enter Try.func98, Try.ntmps98
      go_wp2
      go_ret
      exact ⟨by rw [E.out]; rfl, rfl⟩

set_option maxHeartbeats 1000000 in
set_option maxRecDepth 100000 in
theorem ser_place1 {w : World} {B s : Nat} {v : Value} {room : Nat} {L : List Samp} (h : SerAt w B s v room L) (t : Int) (p2 p3 : Nat) (c2 : w.cell? ⟨p2, 0, none⟩ = some (.pointer (some ⟨s, 0, none⟩))) (c3 : w.cell? ⟨p3, 0, none⟩ = some (.int .i64 t)) (k : Nat) (hk : k < L.length) :
    Calls Try.prog 190 #[.int .i64 k, .pointer (some ⟨p2, 0, none⟩), .pointer (some ⟨p3, 0, none⟩)] w fun e w' => e = .returned (.bool (decide (t ≤ Ser.tk L k))) ∧ Below w.heap.size w w' := by
  have c1 := h.cell1
  obtain ⟨p, cap, rfl, _, hs⟩ := h.samps
  obtain ⟨b, off, rfl, _, q0, _⟩ := hs.cells k hk
  have hq : Ser.tk L k = (L[k]?.getD default).tick := rfl
  rw [← hq] at q0
  obtain ⟨y, ey⟩ : ∃ y, y = Ser.tk L k := ⟨_, rfl⟩
  rw [← ey] at q0 ⊢
  obtain ⟨n, en⟩ : ∃ n, n = L.length := ⟨_, rfl⟩
  rw [← en] at hk c1
  have i1 : (0 : Int) ≤ (k : Int) := by omega
  have i2 : (k : Int) < (n : Int) := by omega
  clear h hs hq ey en
  by_cases hty : t ≤ y
  · have d1 : decide (t ≤ y) = true := decide_eq_true hty
    rw [d1]
    go_enter Try.func190, Try.ntmps190
    go_wp2_with fail
    go_quiet (fail)
    go_wp2
    go_ret
    exact ⟨rfl, below_drewN (Below.refl _ _) _⟩
  · have d1 : decide (t ≤ y) = false := decide_eq_false hty
    rw [d1]
    go_enter Try.func190, Try.ntmps190
    go_wp2_with fail
    go_quiet (fail)
    go_wp2
    go_ret
    exact ⟨rfl, below_drewN (Below.refl _ _) _⟩

set_option maxHeartbeats 2000000 in
set_option maxRecDepth 100000 in
theorem ser_search {w : World} {B s : Nat} {v : Value} {room : Nat} {L : List Samp} (h : SerAt w B s v room L) (t : Int) (p2 p3 : Nat) (c2 : w.cell? ⟨p2, 0, none⟩ = some (.pointer (some ⟨s, 0, none⟩))) (c3 : w.cell? ⟨p3, 0, none⟩ = some (.int .i64 t)) (hp2 : p2 < w.heap.size) (hp3 : p3 < w.heap.size) :
    Calls Try.prog 189 #[.int .i64 L.length, .func (.func 190) #[] #[.pointer (some ⟨p2, 0, none⟩), .pointer (some ⟨p3, 0, none⟩)]] w fun e w' => e = .returned (.int .i64 (Ser.place L t)) ∧ Below w.heap.size w w' := by
  have H1 := Lib.hid (fun (k : Nat) (hk : k < L.length) (W : World) (hb : Below w.heap.size w W) => ser_place1 (h.below hb) t p2 p3 ((hb.cell (p := ⟨p2, 0, none⟩) hp2).trans c2) ((hb.cell (p := ⟨p3, 0, none⟩) hp3).trans c3) k hk)
  have HSO := Lib.hid h.sorted
  have HEND := Lib.hid (fun (i : Nat) => @Ser.place_of L t i)
  have hlen : L.length ≤ 256 := Nat.le_trans h.len h.room2
  obtain ⟨n, en⟩ : ∃ n, n = L.length := ⟨_, rfl⟩
  have EN := Lib.hid en
  rw [← en] at hlen ⊢
  obtain ⟨pl, epl⟩ : ∃ x, x = Ser.place L t := ⟨_, rfl⟩
  rw [← epl] at HEND ⊢
  clear h c2 c3 en epl
  go_enter Try.func189, Try.ntmps189
  go_wp2
  go_loopw [5, 6] (fun a b wr => ∃ i j : Nat, i ≤ j ∧ j ≤ n ∧ a = .int .i64 i ∧ b = .int .i64 j ∧ (∀ k, k < i → Ser.tk L k < t) ∧ (∀ k, j ≤ k → k < n → t ≤ Ser.tk L k) ∧ Below w.heap.size w wr) (fun a b _ => (intOf b).toNat - (intOf a).toNat)
  case atStart => exact ⟨0, n, by omega, Nat.le_refl _, rfl, rfl, fun k hk => by omega, fun k h1 h2 => by omega, Below.refl _ _⟩
  case round =>
    obtain ⟨i, j, hij, hjn, rfl, rfl, hlo, hhi, hB⟩ := hrel
    have HLO := Lib.hid hlo
    have HHI := Lib.hid hhi
    have HB := Lib.hid hB
    clear hlo hhi hB
    by_cases hlt : i < j
    · obtain ⟨m, em⟩ : ∃ m, m = (i + j) / 2 := ⟨_, rfl⟩
      have hm1 : i ≤ m := by omega
      have hm2 : m < j := by omega
      have hF := H1.out m (by have := EN.out; omega) wr HB.out
      have e1 : ((i : Int) + (j : Int)) / 2 = (m : Int) := by omega
      have e2 : IntKind.u64.wrap ((i : Int) + (j : Int)) = (i : Int) + (j : Int) := by rw [IntKind.wrap_u64]; omega
      clear em
      by_cases hq : t ≤ Ser.tk L m
      · rw [decide_eq_true hq] at hF
        have HF := Lib.hid hF
        have HN : Hid (∀ k, m ≤ k → k < n → t ≤ Ser.tk L k) := fun k h1 h2 => HSO.out.from hq h1 (by have := EN.out; omega)
        clear hF hq
        go_wp2_with fail
        (with_reducible refine HF.out.mono ?_)
        rintro e w1 ⟨rfl, hb1⟩
        have HB1 := Lib.hid (HB.out.trans (hb1.mono HB.out.size))
        clear hb1
        go_wp2
        exact ⟨⟨i, m, hm1, by omega, rfl, rfl, HLO.out, HN.out, HB1.out⟩, by simp [intOf]; omega⟩
      · rw [decide_eq_false hq] at hF
        have HF := Lib.hid hF
        have HN : Hid (∀ k, k < m + 1 → Ser.tk L k < t) := fun k h1 => by
          by_cases e : k = m
          · subst e; omega
          · have := HSO.out k m (by omega) (by have := EN.out; omega); omega
        clear hF hq
        go_wp2_with fail
        (with_reducible refine HF.out.mono ?_)
        rintro e w1 ⟨rfl, hb1⟩
        have HB1 := Lib.hid (HB.out.trans (hb1.mono HB.out.size))
        clear hb1
        go_wp2
        exact ⟨⟨m + 1, j, by omega, hjn, by go_num, rfl, HN.out, HHI.out, HB1.out⟩, by simp [intOf]; omega⟩
    · obtain rfl : i = j := by omega
      have e : pl = i := HEND.out i (by have := EN.out; omega) HLO.out (fun h => HHI.out i (Nat.le_refl _) (by have := EN.out; omega))
      have E := Lib.hid e
      clear e
      go_wp2
      go_ret
      exact ⟨by rw [E.out]; rfl, HB.out⟩

set_option maxRecDepth 100000 in
theorem ser_place {w : World} {B s : Nat} {v : Value} {room : Nat} {L : List Samp} (h : SerAt w B s v room L) (t : Int) :
    Calls Try.prog 169 #[.pointer (some ⟨s, 0, none⟩), .int .i64 t] w fun e w' => e = .returned (.int .i64 (Ser.place L t)) ∧ Below w.heap.size w w' := by
  obtain ⟨W, hW⟩ : ∃ W, W = (w.alloc (.cells #[.pointer (some ⟨s, 0, none⟩)] 135)).alloc (.cells #[.int .i64 t] 2) := ⟨_, rfl⟩
  have M : Hid (Mem w W [(w.heap.size, .cells #[.pointer (some ⟨s, 0, none⟩)] 135), (w.heap.size + 1, .cells #[.int .i64 t] 2)]) := by
    show Mem _ _ _
    rw [hW]
    exact ((Mem.start w).alloc _).allocAs (w.heap.size + 1) _ (by simp)
  have hh := h.below M.out.below
  have c1 := hh.cell1
  have m0 := M.out.cell 0 0 rfl rfl
  have m1 := M.out.cell 1 0 rfl rfl
  have hs := ser_search hh t w.heap.size (w.heap.size + 1) m0 m1 (M.out.lt (i := 0) rfl) (M.out.lt (i := 1) rfl)
  obtain ⟨p, cap, rfl, _, _⟩ := h.samps
  obtain ⟨n, en⟩ : ∃ n, n = L.length := ⟨_, rfl⟩
  rw [← en] at hs c1
  have HS := Lib.hid hs
  clear h hh hs en
  go_enter Try.func169, Try.ntmps169
  go_upto_region 1 with fail
  rw [← hW]
  clear hW
  go_wp2_with fail
  (with_reducible refine HS.out.mono ?_)
  rintro e w1 ⟨rfl, hb1⟩
  have B1 := Lib.hid (M.out.call hb1).below
  clear hb1
  go_wp2
  go_ret
  exact ⟨rfl, B1.out⟩
end Go.Proofs.Ytapgcbjlgekpeaa

/- A series: what is put; its samples. -/
namespace Go.Proofs.Ytapgcbjlgekpeaa
open Go.ChangeShapes Go.WideShapes Go.ChangeAt Go.RowKit

theorem sampVals_set (ys : List Samp) (f : Nat) (a : Samp) (i : Nat) (hf : f < ys.length) : (sampVals (ys.set f a))[i]? = if f * 2 ≤ i ∧ i < f * 2 + 2 then (sampVals [a])[i - f * 2]? else (sampVals ys)[i]? := by
  induction ys generalizing f i with
  | nil => simp at hf
  | cons y ys ih =>
    cases f with
    | zero =>
      match i with
      | 0 => rfl
      | 1 => rfl
      | i + 2 => rw [if_neg (by omega)]; rfl
    | succ f =>
      match i with
      | 0 => rw [if_neg (by omega)]; rfl
      | 1 => rw [if_neg (by omega)]; rfl
      | i + 2 =>
        show (sampVals (ys.set f a))[i]? = _
        rw [ih f i (by simpa using hf)]
        by_cases h : f * 2 ≤ i ∧ i < f * 2 + 2
        · rw [if_pos h, if_pos (show (f + 1) * 2 ≤ i + 2 ∧ i + 2 < (f + 1) * 2 + 2 by omega), show i + 2 - (f + 1) * 2 = i - f * 2 by omega]
        · rw [if_neg h, if_neg (by omega)]
          rfl
theorem sampVals_cut : ∀ (L : List Samp) (i : Nat), (sampVals L).take (i * 2) = sampVals (L.take i) ∧ (sampVals L).drop (i * 2) = sampVals (L.drop i)
  | L, 0 => by simp [sampVals]
  | [], i + 1 => by simp [sampVals]
  | a :: L, i + 1 => by
    obtain ⟨h1, h2⟩ := sampVals_cut L i
    rw [show (i + 1) * 2 = i * 2 + 2 by omega]
    exact ⟨by show _ :: _ :: (sampVals L).take (i * 2) = _; rw [h1]; rfl, h2⟩

set_option maxHeartbeats 2000000 in
set_option maxRecDepth 100000 in
theorem ser_put_bad {s : Option Addr} (x : Samp) (hc : Ser.code x ≠ 0) (w : World) :
    Calls Try.prog 135 #[.pointer s, .int .i64 x.tick, .int .i64 x.val] w fun e w' => e = .returned (.int .i64 (Ser.code x)) ∧ w = w' := by
  have F1 := Lib.hid (ser_right x)
  obtain ⟨c, ec⟩ : ∃ c, c = Ser.code x := ⟨_, rfl⟩
  rw [← ec] at F1 hc ⊢
  clear ec
  have hb : (c == 0) = false := beq_eq_false_iff_ne.2 hc
  go_enter Try.func135, Try.ntmps135
  go_wp2_with ((with_reducible refine (F1.out _).mono ?_); rintro e w1 ⟨rfl, rfl⟩)
  go_ret
  exact ⟨rfl, rfl⟩

/-- The state behind a call that put a sample. -/
def PutOf (w : World) (B s : Nat) (v : Value) (room : Nat) (L : List Samp) (e : Ending) (w' : World) : Prop :=
  e = .returned (.int .i64 0) ∧ ∃ v', SerAt w' B s v' room L ∧ Turned (fun k => k = s ∨ v.ownBlock = some k) w w' ∧ (∀ k, v'.ownBlock = some k → v.ownBlock = some k ∨ w.heap.size ≤ k)

theorem Owns.capIs {w : World} {B sz n c : Nat} {p : Option Addr} {xs : List Value} (h : Owns w B sz (.slice p n c) n xs) (hn : 0 < n) : ∃ g, p = some ⟨g, 0, none⟩ ∧ B ≤ g ∧ g < w.heap.size ∧ n ≤ c := by
  obtain ⟨g, cap, e, h1, h2, h3, _⟩ := h.some_of hn
  simp only [Value.slice.injEq] at e
  exact ⟨g, e.1, h1, h2, by omega⟩

set_option maxHeartbeats 4000000 in
set_option maxRecDepth 100000 in
theorem ser_put_same {w : World} {B s : Nat} {v : Value} {room : Nat} {L : List Samp} (h : SerAt w B s v room L) (x : Samp) (hc : Ser.code x = 0) (hi : Ser.place L x.tick < L.length) (he : Ser.tk L (Ser.place L x.tick) = x.tick) :
    Calls Try.prog 135 #[.pointer (some ⟨s, 0, none⟩), .int .i64 x.tick, .int .i64 x.val] w (PutOf w B s v room (L.set (Ser.place L x.tick) x)) := by
  have F1 := ser_right x
  rw [hc] at F1
  have hsrt : Ser.Sorted (L.set (Ser.place L x.tick) x) := by
    have := Ser.ins_sorted h.sorted x
    unfold Ser.ins at this
    rwa [if_pos ⟨hi, he⟩] at this
  have hro : ((room : Int) == 0) = false := beq_eq_false_iff_ne.2 (by have := h.room1; omega)
  have hrn : ¬ (room : Int) = 0 := by have := h.room1; omega
  have hh := h.below (below1 w (.cells #[.int .i64 x.tick, .int .i64 x.val] 23))
  have F2 := ser_place hh x.tick
  have hw0 := h.cell0
  have M0 : Hid (Mem w (w.alloc (.cells #[.int .i64 x.tick, .int .i64 x.val] 23)) [(w.heap.size, .cells #[.int .i64 x.tick, .int .i64 x.val] 23)]) := (Mem.start w).alloc _
  obtain ⟨g, cap, rfl, hBg, hgw, hnc, _, _⟩ := h.owns.some_of (by omega)
  obtain ⟨i, ei⟩ : ∃ i, i = Ser.place L x.tick := ⟨_, rfl⟩
  rw [← ei] at F2 hi he hsrt ⊢
  have HSV := Lib.hid (fun k => sampVals_set L i x k hi)
  have HSRT := Lib.hid hsrt
  have HH := Lib.hid hh
  have F1' := Lib.hid F1
  have F2' := Lib.hid F2
  have HGW := Lib.hid hgw
  obtain ⟨n, en⟩ : ∃ n, n = L.length := ⟨_, rfl⟩
  rw [← en] at hi hnc HH ⊢
  have EN := Lib.hid en
  obtain ⟨tick, val⟩ := x
  simp only at F1' F2' he M0 ⊢
  have HE := Lib.hid he
  clear h hh F1 F2 hsrt hc ei en he hgw hBg
  go_enter Try.func135, Try.ntmps135
  go_wp2_with ((with_reducible refine (F1'.out _).mono ?_); rintro e w1 ⟨rfl, rfl⟩)
  (with_reducible refine F2'.out.mono ?_)
  rintro e w1 ⟨rfl, hb1⟩
  have M1 := Lib.hid (M0.out.call hb1)
  have H1 := Lib.hid (HH.out.below hb1)
  have c1 := H1.out.cell1
  have q0 : w1.cell? ⟨g, i * 2, none⟩ = some (.int .i64 tick) := by
    obtain ⟨b, off, e, _, q0, _⟩ := (H1.out.samps.choose_spec.choose_spec.2.2).cells i (by have := EN.out; omega)
    obtain ⟨p, cp, e2, _, hs⟩ := H1.out.samps
    simp only [Value.slice.injEq] at e2
    obtain ⟨rfl, _, _⟩ := e2
    obtain ⟨b, off, e3, _, q0, _⟩ := hs.cells i (by have := EN.out; omega)
    simp only [Option.some.injEq, Addr.mk.injEq, and_true] at e3
    obtain ⟨rfl, rfl⟩ := e3
    rw [Nat.zero_add] at q0
    rw [q0]
    exact congrArg (fun z => some (Value.int .i64 z)) HE.out
  have i1 : (0 : Int) ≤ (i : Int) := by omega
  have i2 : (i : Int) < (n : Int) := by omega
  have hst := stab_and (stab_ser (B := B) (s := s) (v := .slice (some ⟨g, 0, none⟩) n cap) (room := room) (L := L)) (stab_mem (w := w) (bs := [(w.heap.size, .cells #[.int .i64 tick, .int .i64 val] 23)]))
  clear hb1 M0 HH F1' F2' hw0 hro hrn
  go_wp2_with fail
  clear c1 q0
  refine wp_region_E mixed [7] hst ⟨H1.out.below (below_drew (Below.refl _ _)), M1.out.drewN 1⟩ ?_
  refine wpAnyE_take 0 rfl (by kernel_rfl) (by kernel_rfl) (by kernel_rfl) (fun _ _ _ h => h) hst (EffB.pure rfl (fun _ => rfl)) (.inr (EffB.pure rfl (fun _ => rfl))) ?_
  simp only [act_norm]
  refine wpAnyE_take 1 rfl (by kernel_rfl) (by kernel_rfl) (by kernel_rfl) (fun _ _ _ h => h) hst (EffB.pure rfl (fun _ => rfl)) (.inr (EffB.pure rfl (fun _ => rfl))) ?_
  simp only [act_norm]
  refine wpAnyE_take 2 (v := .pointer (some ⟨s, 1, none⟩)) rfl (by kernel_rfl) (by kernel_rfl) (by kernel_rfl) (fun _ _ _ h => h) hst (EffB.run rfl rfl (fun wd hS => ?_)) (.inr (EffB.run rfl rfl (fun wd hS => ?_))) ?_
  · (go_wp2; exact ⟨rfl, Below.refl _ _⟩)
  · (go_wp2; exact ⟨rfl, Below.refl _ _⟩)
  simp only [act_norm]
  refine wpAnyE_take 3 (v := .slice (some ⟨g, 0, none⟩) n cap) rfl (by kernel_rfl) (by kernel_rfl) (by kernel_rfl) (fun _ _ _ h => h) hst (EffB.run rfl rfl (fun wd hS => ?_)) (.inl (by kernel_rfl)) ?_
  · (have c2 : wd.cell? ⟨s, 1, none⟩ = some (.slice (some ⟨g, 0, none⟩) n cap) := by rw [cell_of_row _ _ _ _ _ _ (hS.1.row)]; rfl); go_wp2; exact ⟨rfl, Below.refl _ _⟩
  simp only [act_norm]
  refine wpAnyE_take 4 rfl (by kernel_rfl) (by kernel_rfl) (by kernel_rfl) (fun _ _ _ h => h) hst (EffB.pure rfl (fun _ => rfl)) (.inr (EffB.pure rfl (fun _ => rfl))) ?_
  simp only [act_norm]
  refine wpAnyE_take 5 (v := .agg #[.int .i64 tick, .int .i64 val]) rfl (by kernel_rfl) (by kernel_rfl) (by kernel_rfl) (fun _ _ _ h => h) hst (EffB.run rfl rfl (fun wd hS => ?_)) (.inl (by kernel_rfl)) ?_
  · exact wp_load_row 23 _ rfl (w.heap.size) rfl 23 #[.int .i64 tick, .int .i64 val] (0, 0) _ (hS.2.heap 0 rfl) Try.underlying23 rfl (by kernel_rfl) ⟨rfl, Below.refl _ _⟩
  simp only [act_norm]
  refine wpAnyE_take 6 (v := .pointer (some ⟨g, i * 2, none⟩)) rfl (by kernel_rfl) (by kernel_rfl) (by kernel_rfl) (fun _ _ _ h => h) hst (EffB.run rfl rfl (fun wd hS => ?_)) (.inr (EffB.run rfl rfl (fun wd hS => ?_))) ?_
  · (go_wp2; exact ⟨rfl, Below.refl _ _⟩)
  · (go_wp2; exact ⟨rfl, Below.refl _ _⟩)
  simp only [act_norm]
  refine wpAnyE_one 7 rfl (by kernel_rfl) rfl (fun wd hS => ?_)
  have hgw := HGW.out
  obtain ⟨g', c', e, _, _, _, _, hth⟩ := hS.1.owns.some_of (by have := EN.out; omega)
  simp only [Value.slice.injEq, Option.some.injEq, Addr.mk.injEq, and_true] at e
  obtain ⟨rfl, _, rfl⟩ := e
  refine wp_store_mid 23 _ _ rfl g (i * 2) #[.int .i64 tick, .int .i64 val] rfl rfl (fun j hj => by have := hth (i * 2 + j) (by have : j < 2 := hj; omega); rwa [Nat.zero_add] at this) (by kernel_rfl) (by simp [Value.oneCell']) ?_
  have ho : Owns (wd.setCells g (i * 2) (sampVals [⟨tick, val⟩])) B 2 (.slice (some ⟨g, 0, none⟩) n cap) n (sampVals (L.set i ⟨tick, val⟩)) := by
    have hO := hS.1.owns
    rw [← EN.out] at hO
    refine hO.putAt rfl _ _ n hnc (by show i * 2 + 2 ≤ _; omega) _ (by rw [sampVals_len, List.length_set, EN.out]) (fun k hk => ?_)
    exact HSV.out k
  have hr3 : SerAt (wd.setCells g (i * 2) (sampVals [⟨tick, val⟩])) B s (.slice (some ⟨g, 0, none⟩) n cap) room (L.set i ⟨tick, val⟩) :=
    ⟨hS.1.low, (heap_setCells_else _ _ _ _ _ (fun e => hS.1.apart (by rw [e]; rfl))).trans hS.1.row, by rw [List.length_set, ← EN.out]; exact ho, hS.1.apart, hS.1.room1, hS.1.room2, by rw [List.length_set]; exact hS.1.len, HSRT.out⟩
  have ht3 : Turned (fun k => k = s ∨ (Value.slice (some ⟨g, 0, none⟩) n cap).ownBlock = some k) w (wd.setCells g (i * 2) (sampVals [⟨tick, val⟩])) := (Turned.of_below hS.2.below).trans (turned_setCells wd g _ _ (fun k => k = g) rfl) (fun k hk e => .inr (by have h : k = g := e; rw [h]; rfl))
  have hst2 := stab_and (stab_ser (B := B) (s := s) (v := .slice (some ⟨g, 0, none⟩) n cap) (room := room) (L := L.set i ⟨tick, val⟩)) (stab_turned (S := fun k => k = s ∨ (Value.slice (some ⟨g, 0, none⟩) n cap).ownBlock = some k) (w := w))
  refine ⟨_, ⟨hr3, ht3⟩, hst2, .inl (by decide), ?_⟩
  clear hS hth ho hr3 ht3 hst
  try simp only [act_norm]
  refine wpAnyE_done (by kernel_rfl) (fun wd hS => ?_) _
  have HS := Lib.hid hS
  clear hS
  go_wp2
  go_ret
  exact ⟨rfl, _, HS.out.1, HS.out.2, fun k hk => .inl hk⟩
end Go.Proofs.Ytapgcbjlgekpeaa

/- A series: a tick that is new. -/
namespace Go.Proofs.Ytapgcbjlgekpeaa
open Go.ChangeShapes Go.WideShapes Go.ChangeAt Go.RowKit

set_option maxHeartbeats 4000000 in
set_option maxRecDepth 100000 in
theorem ser_put_new {w : World} {B s : Nat} {v : Value} {room : Nat} {L : List Samp} (h : SerAt w B s v room L) (hB : B ≤ w.heap.size) (x : Samp) (hc : Ser.code x = 0) (hi : ¬ (Ser.place L x.tick < L.length ∧ Ser.tk L (Ser.place L x.tick) = x.tick)) :
    Calls Try.prog 135 #[.pointer (some ⟨s, 0, none⟩), .int .i64 x.tick, .int .i64 x.val] w (PutOf w B s v room (Ser.cutTo room (L.take (Ser.place L x.tick) ++ x :: L.drop (Ser.place L x.tick)))) := by
  have F1 := ser_right x
  rw [hc] at F1
  have hins : Ser.ins L x = L.take (Ser.place L x.tick) ++ x :: L.drop (Ser.place L x.tick) := by unfold Ser.ins; rw [if_neg hi]
  have hsrt : Ser.Sorted (L.take (Ser.place L x.tick) ++ x :: L.drop (Ser.place L x.tick)) := hins ▸ Ser.ins_sorted h.sorted x
  have hplen : Ser.place L x.tick ≤ L.length := Ser.place_le L x.tick
  have hmlen : (L.take (Ser.place L x.tick) ++ x :: L.drop (Ser.place L x.tick)).length = L.length + 1 := by rw [List.length_append, List.length_take, List.length_cons, List.length_drop]; omega
  have hro : ((room : Int) == 0) = false := beq_eq_false_iff_ne.2 (by have := h.room1; omega)
  have hrn : ¬ (room : Int) = 0 := by have := h.room1; omega
  have hh := h.below (below1 w (.cells #[.int .i64 x.tick, .int .i64 x.val] 23))
  have F2 := ser_place hh x.tick
  have hw0 := h.cell0
  have M0 : Hid (Mem w (w.alloc (.cells #[.int .i64 x.tick, .int .i64 x.val] 23)) [(w.heap.size, .cells #[.int .i64 x.tick, .int .i64 x.val] 23)]) := (Mem.start w).alloc _
  obtain ⟨pv, cv, rfl, hcv, _⟩ := h.owns.sl
  have hsw := h.lt
  have hvw : ∀ k, (Value.slice pv L.length cv).ownBlock = some k → k < w.heap.size := fun k hk => (h.owns.lt k hk).2
  obtain ⟨i, ei⟩ : ∃ i, i = Ser.place L x.tick := ⟨_, rfl⟩
  rw [← ei] at F2 hi hsrt hplen hmlen ⊢
  obtain ⟨m, em⟩ : ∃ m, m = L.take i ++ x :: L.drop i := ⟨_, rfl⟩
  rw [← em] at hsrt hmlen ⊢
  have HVAL : Hid ((sampVals L).take (i * 2) ++ sampVals [x] ++ (sampVals L).drop (i * 2) = sampVals m) := by
    show _ = _
    rw [(sampVals_cut L i).1, (sampVals_cut L i).2, em, sampVals_append, List.append_assoc]
    rfl
  have HSRT := Lib.hid hsrt
  have HML := Lib.hid hmlen
  have HSW := Lib.hid hsw
  have HVW := Lib.hid hvw
  have HAP := Lib.hid h.apart
  have HH := Lib.hid hh
  have F1' := Lib.hid F1
  have F2' := Lib.hid F2
  have HL := Lib.hid (And.intro h.room1 (And.intro h.room2 h.len))
  have HLOW := Lib.hid h.low
  have HLOWV : Hid (∀ k, (Value.slice pv L.length cv).ownBlock = some k → B ≤ k) := fun k hk => (h.owns.lt k hk).1
  obtain ⟨n, en⟩ : ∃ n, n = L.length := ⟨_, rfl⟩
  rw [← en] at hi hcv HH hplen HML HVW HAP HL HLOWV ⊢
  have EN := Lib.hid en
  have hn256 : n ≤ 256 := by have := HL.out; omega
  obtain ⟨tick, val⟩ := x
  simp only at F1' F2' hi M0 HVAL ⊢
  clear h hh F1 F2 hsrt hc ei en hsw hvw hins em hmlen
  -- what stands at the tick's place, if anything does
  have HQ : Hid (∀ W : World, SerAt W B s (.slice pv n cv) room L → i < n → ∃ g y, pv = some ⟨g, 0, none⟩ ∧ W.cell? ⟨g, i * 2, none⟩ = some (.int .i64 y) ∧ ¬ y = tick) := fun W hW hin => by
    obtain ⟨p, cp, e2, _, hs⟩ := hW.samps
    simp only [Value.slice.injEq] at e2
    obtain ⟨rfl, _, _⟩ := e2
    have hO := hW.owns
    rw [← EN.out] at hO
    obtain ⟨g, rfl, _⟩ := hO.capIs (by omega)
    obtain ⟨b, off, e3, _, q0, _⟩ := hs.cells i (by have := EN.out; omega)
    simp only [Option.some.injEq, Addr.mk.injEq, and_true] at e3
    obtain ⟨rfl, rfl⟩ := e3
    rw [Nat.zero_add] at q0
    exact ⟨g, _, rfl, q0, fun e => hi ⟨hin, e⟩⟩
  have hst := stab_and (stab_ser (B := B) (s := s) (v := .slice pv n cv) (room := room) (L := L)) (stab_mem (w := w) (bs := [(w.heap.size, .cells #[.int .i64 tick, .int .i64 val] 23)]))
  go_enter Try.func135, Try.ntmps135
  go_wp2_with ((with_reducible refine (F1'.out _).mono ?_); rintro e w1 ⟨rfl, rfl⟩)
  (with_reducible refine F2'.out.mono ?_)
  rintro e w1 ⟨rfl, hb1⟩
  have M1 := Lib.hid (M0.out.call hb1)
  have H1 := Lib.hid (HH.out.below hb1)
  have c1 := H1.out.cell1
  clear hb1 M0 HH F1' F2' hw0 hro hrn hi
  -- up to the call of Insert: the test fails, whatever stands there
  go_upto_region 8 with fail
  go_cut [49] from 31 to 49 (fun s49 wx => s49 = .bool false ∧ wx = w1)
  case first =>
    by_cases hin : i < n
    · obtain ⟨g, y, rfl, q0, hyt⟩ := HQ.out w1 H1.out hin
      have i1 : (0 : Int) ≤ (i : Int) := by omega
      have i2 : (i : Int) < (n : Int) := by omega
      have hyb : (y == tick) = false := beq_eq_false_iff_ne.2 hyt
      go_wp2_with fail
      go_meet
      exact ⟨rfl, rfl⟩
    · have i2 : ¬ (i : Int) < (n : Int) := by omega
      have d1 : decide ((i : Int) < (n : Int)) = false := decide_eq_false i2
      go_wp2_with fail
      go_meet
      exact ⟨rfl, rfl⟩
  case rest =>
    obtain ⟨rfl, rfl⟩ := hcut
    clear c1
    go_wp2_with fail
    refine wp_region_E mixed [8, 11] hst ⟨H1.out.below (below_drew (Below.refl _ _)), M1.out.drewN 1⟩ ?_
    refine wpAnyE_take 0 rfl (by kernel_rfl) (by kernel_rfl) (by kernel_rfl) (fun _ _ _ h => h) hst (EffB.pure rfl (fun _ => rfl)) (.inr (EffB.pure rfl (fun _ => rfl))) ?_
    simp only [act_norm]
    refine wpAnyE_take 1 rfl (by kernel_rfl) (by kernel_rfl) (by kernel_rfl) (fun _ _ _ h => h) hst (EffB.pure rfl (fun _ => rfl)) (.inr (EffB.pure rfl (fun _ => rfl))) ?_
    simp only [act_norm]
    refine wpAnyE_take 2 (v := .pointer (some ⟨s, 0, none⟩)) rfl (by kernel_rfl) (by kernel_rfl) (by kernel_rfl) (fun _ _ _ h => h) hst (EffB.run rfl rfl (fun wd hS => ?_)) (.inr (EffB.run rfl rfl (fun wd hS => ?_))) ?_
    · (go_wp2; exact ⟨rfl, Below.refl _ _⟩)
    · (go_wp2; exact ⟨rfl, Below.refl _ _⟩)
    simp only [act_norm]
    refine wpAnyE_take 3 (v := .pointer (some ⟨s, 1, none⟩)) rfl (by kernel_rfl) (by kernel_rfl) (by kernel_rfl) (fun _ _ _ h => h) hst (EffB.run rfl rfl (fun wd hS => ?_)) (.inr (EffB.run rfl rfl (fun wd hS => ?_))) ?_
    · (go_wp2; exact ⟨rfl, Below.refl _ _⟩)
    · (go_wp2; exact ⟨rfl, Below.refl _ _⟩)
    simp only [act_norm]
    refine wpAnyE_take 4 (v := .slice pv n cv) rfl (by kernel_rfl) (by kernel_rfl) (by kernel_rfl) (fun _ _ _ h => h) hst (EffB.run rfl rfl (fun wd hS => ?_)) (.inl (by kernel_rfl)) ?_
    · (have c2 : wd.cell? ⟨s, 1, none⟩ = some (.slice pv n cv) := by rw [cell_of_row _ _ _ _ _ _ (hS.1.row)]; rfl); go_wp2; exact ⟨rfl, Below.refl _ _⟩
    simp only [act_norm]
    refine wpAnyE_take 5 rfl (by kernel_rfl) (by kernel_rfl) (by kernel_rfl) (fun _ _ _ h => h) hst (EffB.pure rfl (fun _ => rfl)) (.inr (EffB.pure rfl (fun _ => rfl))) ?_
    simp only [act_norm]
    refine wpAnyE_take 6 (v := .agg #[.int .i64 tick, .int .i64 val]) rfl (by kernel_rfl) (by kernel_rfl) (by kernel_rfl) (fun _ _ _ h => h) hst (EffB.run rfl rfl (fun wd hS => ?_)) (.inl (by kernel_rfl)) ?_
    · exact wp_load_row 23 _ rfl (w.heap.size) rfl 23 #[.int .i64 tick, .int .i64 val] (0, 0) _ (hS.2.heap 0 rfl) Try.underlying23 rfl (by kernel_rfl) ⟨rfl, Below.refl _ _⟩
    simp only [act_norm]
    refine wpAnyE_one 7 rfl (by kernel_rfl) rfl (fun wd hS => ?_)
    have hst2 := stab_and hst (stab_heap wd.heap.size (.cells #[.int .i64 tick, .int .i64 val] 23 (0, 0)))
    have hxsz : w.heap.size < wd.heap.size := hS.2.lt (i := 0) rfl
    have X1 := Lib.hid (And.intro (hst _ _ hS (below1 wd (.cells #[.int .i64 tick, .int .i64 val] 23))) (heap_alloc_at wd (.cells #[.int .i64 tick, .int .i64 val] 23) wd.heap.size rfl))
    clear hS
    go_wp2
    refine ⟨_, X1.out, hst2, (by first | exact fun _ h => h.1 | exact .inr fun _ h => h.1), ?_⟩
    obtain ⟨X, hX⟩ : ∃ X, wd.heap.size = X := ⟨_, rfl⟩
    rw [hX] at hst2 hxsz ⊢
    clear X1 hst hX
    try simp only [act_norm]
    refine wpAnyE_one 8 rfl (by kernel_rfl) rfl (fun wd hS => ?_)
    have hO0 := hS.1.1.owns
    rw [← EN.out] at hO0
    have hcall := insert_samp B (.slice pv n cv) n i (sampVals L) X ⟨tick, val⟩ (by omega) hplen wd hO0 (sampVals_one L) (by have := hS.1.2.below.size; omega) hS.2 (fun e => by have := HVW.out _ e; omega)
    rw [HVAL.out] at hcall
    go_wp2_with fail
    (with_reducible refine hcall.mono ?_)
    rintro e w3 ⟨v3, rfl, ho3, ht3, hw3⟩
    obtain ⟨p3, c3, rfl, hc3, _⟩ := ho3.sl
    have hwb := hS.1.2.below.size
    have k3 := (ht3.block s hS.1.1.lt (fun e => HAP.out e)).trans hS.1.1.row
    have hT3 : Turned (fun k => k = s ∨ (Value.slice pv n cv).ownBlock = some k) w w3 := (Turned.of_below hS.1.2.below).trans ht3 (fun k _ h => .inr h)
    have hap3 : Hid ((Value.slice p3 (n + 1) c3).ownBlock ≠ some s) := fun e => by
      rcases hw3 with h | h
      · rw [h] at e; exact HAP.out e
      · have := h _ e; have := HSW.out; omega
    have hwk3 : Hid (∀ k, (Value.slice p3 (n + 1) c3).ownBlock = some k → (Value.slice pv n cv).ownBlock = some k ∨ w.heap.size ≤ k) := fun k hk => by
      rcases hw3 with h | h
      · exact .inl (h ▸ hk)
      · have := h _ hk; exact .inr (by omega)
    have hst3 := stab_and (stab_and (stab_heap s (.cells #[.int .i64 room, .slice pv n cv] 201 (0, 0))) (stab_owns (B := B) (sz := 2) (v := .slice p3 (n + 1) c3) (n := n + 1) (xs := sampVals m))) (stab_turned (S := fun k => k = s ∨ (Value.slice pv n cv).ownBlock = some k) (w := w))
    refine ⟨_, ⟨⟨k3, ho3⟩, hT3⟩, hst3, ?_⟩
    clear hS hO0 hcall ho3 ht3 hw3 k3 hT3 hst2 hxsz hwb
    try simp only [act_norm]
    have hst := hst3
    refine wpAnyE_take 9 (v := .pointer (some ⟨s, 0, none⟩)) rfl (by kernel_rfl) (by kernel_rfl) (by kernel_rfl) (fun _ _ _ h => h) hst (EffB.run rfl rfl (fun wd hS => ?_)) (.inr (EffB.run rfl rfl (fun wd hS => ?_))) ?_
    · (go_wp2; exact ⟨rfl, Below.refl _ _⟩)
    · (go_wp2; exact ⟨rfl, Below.refl _ _⟩)
    simp only [act_norm]
    refine wpAnyE_take 10 (v := .pointer (some ⟨s, 1, none⟩)) rfl (by kernel_rfl) (by kernel_rfl) (by kernel_rfl) (fun _ _ _ h => h) hst (EffB.run rfl rfl (fun wd hS => ?_)) (.inr (EffB.run rfl rfl (fun wd hS => ?_))) ?_
    · (go_wp2; exact ⟨rfl, Below.refl _ _⟩)
    · (go_wp2; exact ⟨rfl, Below.refl _ _⟩)
    simp only [act_norm]
    refine wpAnyE_one 11 rfl (by kernel_rfl) rfl (fun wd hS => ?_)
    have c3' : wd.cell? ⟨s, 1, none⟩ = some (.slice pv n cv) := by rw [cell_of_row _ _ _ _ _ _ hS.1.1]; rfl
    have g3' := frozen_of_row wd s 1 _ _ hS.1.1
    have k4 : (wd.setCell ⟨s, 1, none⟩ (.slice p3 (n + 1) c3)).heap[s]? = some (.cells #[.int .i64 room, .slice p3 (n + 1) c3] 201 (0, 0)) := by rw [heap_setCell_same _ _ _ _ _ _ hS.1.1]; rfl
    have o4 := hS.1.2.setOther (b := s) (j := 1) (.slice p3 (n + 1) c3) hap3.out
    have t4 := hS.2.setCell (b := s) (j := 1) (.slice p3 (n + 1) c3) (fun _ => .inl rfl)
    have X4 := Lib.hid (And.intro (And.intro k4 o4) t4)
    have hst4 := stab_and (stab_and (stab_heap s (.cells #[.int .i64 room, .slice p3 (n + 1) c3] 201 (0, 0))) (stab_owns (B := B) (sz := 2) (v := .slice p3 (n + 1) c3) (n := n + 1) (xs := sampVals m))) (stab_turned (S := fun k => k = s ∨ (Value.slice pv n cv).ownBlock = some k) (w := w))
    clear hS hst hst3 k4 o4 t4
    go_wp2
    refine ⟨_, X4.out, hst4, ?_⟩
    clear X4 c3' g3'
    try simp only [act_norm]
    refine wpAnyE_done (by kernel_rfl) (fun wd hS => ?_) _
    have HS := Lib.hid hS
    have c0 : wd.cell? ⟨s, 0, none⟩ = some (.int .i64 room) := by rw [cell_of_row _ _ _ _ _ _ hS.1.1]; rfl
    have c1 : wd.cell? ⟨s, 1, none⟩ = some (.slice p3 (n + 1) c3) := by rw [cell_of_row _ _ _ _ _ _ hS.1.1]; rfl
    clear hS hst4
    have hroom := HL.out
    by_cases hfit : n + 1 ≤ room
    · have ecut : Ser.cutTo room m = m := if_neg (by rw [HML.out]; omega)
      have d1 : decide ((room : Int) < (n : Int) + 1) = false := decide_eq_false (by omega)
      have d2 : decide (room < n + 1) = false := decide_eq_false (by omega)
      have EC := Lib.hid ecut
      clear ecut
      go_wp2_with fail
      go_quiet (fail)
      go_wp2
      go_ret
      rw [EC.out]
      refine ⟨rfl, _, ⟨HLOW.out, HS.out.1.1, by rw [HML.out]; exact HS.out.1.2.same (Nat.le_refl _) (fun _ _ => rfl), hap3.out, hroom.1, hroom.2.1, by rw [HML.out]; omega, HSRT.out⟩, HS.out.2.drewN _, hwk3.out⟩
    · have ecut : Ser.cutTo room m = m.drop 1 := if_pos (by rw [HML.out]; omega)
      have d1 : decide ((room : Int) < (n : Int) + 1) = true := decide_eq_true (by omega)
      have d2 : decide (room < n + 1) = true := decide_eq_true (by omega)
      have EC := Lib.hid ecut
      clear ecut
      go_wp2_with fail
      go_quiet (fail)
      obtain ⟨W, hW⟩ : ∃ W, W = wd.drewN nq := ⟨_, rfl⟩
      have hWO : Owns W B 2 (.slice p3 (n + 1) c3) (n + 1) (sampVals m) := by rw [hW]; exact HS.out.1.2.same (Nat.le_refl _) (fun _ _ => rfl)
      have hWK : W.heap[s]? = some (.cells #[.int .i64 room, .slice p3 (n + 1) c3] 201 (0, 0)) := by rw [hW]; exact HS.out.1.1
      have hWT : Turned (fun k => k = s ∨ (Value.slice pv n cv).ownBlock = some k) w W := by rw [hW]; exact HS.out.2.drewN _
      have e1 : W.cell? ⟨s, 1, none⟩ = some (.slice p3 (n + 1) c3) := by rw [cell_of_row _ _ _ _ _ _ hWK]; rfl
      rw [← hW]
      clear hW c0 c1 HS
      obtain ⟨g3, rfl, hBg3, hgw3, hnc3⟩ := hWO.capIs (by omega)
      have hdel : Calls Try.prog 171 #[.slice (some ⟨g3, 0, none⟩) (n + 1) c3, .int .i64 0, .int .i64 1] W fun e w' =>
        e = .returned (.slice (some ⟨g3, 0, none⟩) n c3) ∧ Owns w' B 2 (.slice (some ⟨g3, 0, none⟩) n c3) n ((sampVals m).drop (1 * 2)) ∧ Turned (fun k => k = g3) W w' := delete_head B g3 c3 n 1 (sampVals m) (by omega) (Nat.le_refl _) (by omega) W hWO (sampVals_one m)
      rw [(sampVals_cut m 1).2] at hdel
      have HDEL := Lib.hid hdel
      have HWK := Lib.hid hWK
      have HWT := Lib.hid hWT
      clear hdel hWK hWT hWO
      go_wp2_with fail
      (with_reducible refine HDEL.out.mono ?_)
      rintro e w5 ⟨rfl, ho5, ht5⟩
      have hsg : s ≠ g3 := fun e => hap3.out (by rw [e]; rfl)
      have k5 := (ht5.block s (lt_of_heap HWK.out) (fun e => hsg e)).trans HWK.out
      have e5 : w5.cell? ⟨s, 1, none⟩ = some (.slice (some ⟨g3, 0, none⟩) (n + 1) c3) := by rw [cell_of_row _ _ _ _ _ _ k5]; rfl
      have z5 := frozen_of_row w5 s 1 _ _ k5
      have hT5 : Turned (fun k => k = s ∨ (Value.slice pv n cv).ownBlock = some k) w w5 := HWT.out.trans ht5 (fun k hk e => by
        have h : k = g3 := e
        subst h
        rcases hwk3.out k rfl with h1 | h1
        · exact .inr h1
        · omega)
      have K5 := Lib.hid k5
      have O5 := Lib.hid ho5
      have T5 := Lib.hid hT5
      have E1 : Hid (∀ k, (Value.slice (some ⟨g3, 0, none⟩) n c3).ownBlock = some k → (Value.slice pv n cv).ownBlock = some k ∨ w.heap.size ≤ k) := fun k hk => hwk3.out k hk
      clear k5 ho5 ht5 hT5 e1
      go_wp2
      go_ret
      have hml : (m.drop 1).length = n := by rw [List.length_drop, HML.out]; omega
      rw [EC.out]
      refine ⟨rfl, .slice (some ⟨g3, 0, none⟩) n c3, ⟨HLOW.out, by rw [heap_setCell_same _ _ _ _ _ _ K5.out]; rfl, by rw [hml]; exact O5.out.setOther _ (fun e => hsg (by have h : some g3 = some s := e; injection h with h; exact h.symm)), fun e => hsg (by have h : some g3 = some s := e; injection h with h; exact h.symm), hroom.1, hroom.2.1, by rw [hml]; omega, Ser.drop_sorted HSRT.out 1⟩, T5.out.setCell _ (fun _ => .inl rfl), E1.out⟩

theorem ser_put {w : World} {B s : Nat} {v : Value} {room : Nat} {L : List Samp} (h : SerAt w B s v room L) (hB : B ≤ w.heap.size) (x : Samp) (hc : Ser.code x = 0) :
    Calls Try.prog 135 #[.pointer (some ⟨s, 0, none⟩), .int .i64 x.tick, .int .i64 x.val] w (PutOf w B s v room (Ser.put L room x)) := by
  by_cases hi : Ser.place L x.tick < L.length ∧ Ser.tk L (Ser.place L x.tick) = x.tick
  · have e : Ser.put L room x = L.set (Ser.place L x.tick) x := by
      unfold Ser.put Ser.ins Ser.cutTo
      rw [if_pos hi, if_neg (by rw [List.length_set]; have := h.len; omega)]
    rw [e]
    exact ser_put_same h x hc hi.1 hi.2
  · have e : Ser.put L room x = Ser.cutTo room (L.take (Ser.place L x.tick) ++ x :: L.drop (Ser.place L x.tick)) := by
      unfold Ser.put Ser.ins
      rw [if_neg hi]
    rw [e]
    exact ser_put_new h hB x hc hi
end Go.Proofs.Ytapgcbjlgekpeaa

/- A series: its samples; the reference's Put. -/
namespace Go.Proofs.Ytapgcbjlgekpeaa
open Go.ChangeShapes Go.WideShapes Go.ChangeAt Go.RowKit

set_option maxRecDepth 100000 in
theorem cloneS_nil (w : World) : Calls Try.prog 172 #[.slice none 0 0] w fun e w' => e = .returned (.slice none 0 0) ∧ w = w' := by
  have hq : ∀ (w : World), (binOp .eql 37 (.slice none 0 0) (.slice none 0 0)).run Try.prog w = .ok (.bool true) w := fun w => Lib.run_eql_slice_nil w 37 23 none 0 0 0 0 Try.underlying37
  go_enter Try.func172, Try.ntmps172
  go_wp2
  go_ret
  exact ⟨rfl, rfl⟩
set_option maxRecDepth 100000 in
theorem cloneS_some (ad : Addr) (n c : Nat) (l : List Samp) (hn : l.length = n) (hb : n ≤ 100000) (w : World) (hs : Samps w (some ad) l) :
    Calls Try.prog 172 #[.slice (some ad) n c] w fun e w' => ∃ u, e = .returned u ∧ Owns w' w.heap.size 2 u n (sampVals l) ∧ Below w.heap.size w w' := by
  have hq : ∀ (w : World), (binOp .eql 37 (.slice (some ad) n c) (.slice none 0 0)).run Try.prog w = .ok (.bool false) w := fun w => Lib.run_eql_slice_nil w 37 23 (some ad) n c 0 0 Try.underlying37
  have hl := sampVals_len l
  rw [hn] at hl
  have HL := Lib.hid hl
  have HC := Lib.hid (hs.below (below1 w (.cells #[] 23))).news
  have H1 := Lib.hid (sampVals_one l)
  have O : Hid (Owns (w.alloc (.cells #[] 23)) w.heap.size 2 (.slice (some ⟨w.heap.size, 0, none⟩) 0 0) 0 []) :=
    ⟨rfl, .inr ⟨w.heap.size, 0, rfl, Nat.le_refl _, by simp, Nat.le_refl _, fun j u hu => by simp at hu, fun j hj => by simp at hj⟩⟩
  clear hl hs hn
  go_enter Try.func172, Try.ntmps172
  go_wp2_with (at_builtin; refine wpList_append_any2 rfl _ _ 37 rfl w.heap.size 23 (.agg #[.int .i64 0, .int .i64 0]) 2 16 Try.underlying37 sampInfo rfl (by decide) _ _ _ rfl O.out _ _ _ (sampVals l) rfl (by rw [HL.out]) (fun h => by cases h) HC.out H1.out (by unfold maxLen; omega) (by omega) (by simp) ?_; intro u1 x1 ha1 hg1 hw1)
  go_ret
  exact ⟨_, rfl, by simpa using ha1, (below1 w _).grown hg1 (by simp) (fun k hk => Nat.le_of_eq (Option.some.inj (show some w.heap.size = some k from hk)))⟩

theorem ser_list {w : World} {B s : Nat} {v : Value} {room : Nat} {L : List Samp} (h : SerAt w B s v room L) :
    Calls Try.prog 136 #[.pointer (some ⟨s, 0, none⟩)] w fun e w' => ∃ p c, e = .returned (.slice p L.length c) ∧ L.length ≤ c ∧ Samps w' p L ∧ Below w.heap.size w w' := by
  have hc : ∃ c : Ending → World → Prop, (Calls Try.prog 172 #[v] w fun e w' => ∃ p c, e = .returned (.slice p L.length c) ∧ L.length ≤ c ∧ Samps w' p L ∧ Below w.heap.size w w') := by
    refine ⟨fun _ _ => True, ?_⟩
    rcases h.owns.2 with ⟨rfl, h0⟩ | ⟨g, cap, rfl, _⟩
    · refine (cloneS_nil w).mono ?_
      rintro e w' ⟨rfl, rfl⟩
      exact ⟨none, 0, by rw [h0], by rw [h0]; omega, .inl h0, Below.refl _ _⟩
    · obtain ⟨p, cp, e, _, hs⟩ := h.samps
      simp only [Value.slice.injEq] at e
      obtain ⟨rfl, _, _⟩ := e
      refine (cloneS_some ⟨g, 0, none⟩ L.length cap L rfl (by have := h.len; have := h.room2; omega) w hs).mono ?_
      rintro e w' ⟨u, rfl, ho, hb⟩
      obtain ⟨p, cp, rfl, hcp, hs2⟩ := samps_of_owns ho
      exact ⟨p, cp, rfl, hcp, hs2, hb⟩
  obtain ⟨_, hc⟩ := hc
  have c1 := h.cell1
  have HC := Lib.hid hc
  obtain ⟨n, en⟩ : ∃ n, n = L.length := ⟨_, rfl⟩
  clear h hc
  go_enter Try.func136, Try.ntmps136
  go_wp2_with fail
  (with_reducible refine HC.out.mono ?_)
  rintro e w1 ⟨p, c, rfl, hc, hs, hb⟩
  go_wp2
  go_ret
  exact ⟨p, c, rfl, hc, hs, hb⟩

theorem ref08_right (x : Samp) (w : World) : Calls Try.prog 82 #[.int .i64 x.tick, .int .i64 x.val] w fun e w' => e = .returned (.int .i64 (Ser.code x)) ∧ w = w' := by
  have H : Hid (Ser.code x = if x.tick < 0 then 3 else if x.val < 0 then 4 else 0) := rfl
  obtain ⟨c, ec⟩ : ∃ c, c = Ser.code x := ⟨_, rfl⟩
  rw [← ec] at H ⊢
  clear ec
  by_cases h1 : x.tick < 0
  · have e : c = 3 := H.out.trans (if_pos h1)
    have E := Lib.hid e
    clear H e
    go_enter Try.func82, Try.ntmps82
    go_wp2
    go_ret
    exact ⟨by rw [E.out]; rfl, rfl⟩
  · by_cases h2 : x.val < 0
    · have e : c = 4 := H.out.trans ((if_neg h1).trans (if_pos h2))
      have E := Lib.hid e
      clear H e
      go_enter Try.func82, Try.ntmps82
      go_wp2
      go_ret
      exact ⟨by rw [E.out]; rfl, rfl⟩
    · have e : c = 0 := H.out.trans ((if_neg h1).trans (if_neg h2))
      have E := Lib.hid e
      clear H e
      go_enter Try.func82, Try.ntmps82
      go_wp2
      go_ret
      exact ⟨by rw [E.out]; rfl, rfl⟩

/-- A step of the reference's Put. -/
def Ser.in1 (x : Samp) (s : List Samp × Bool) (a : Samp) : List Samp × Bool := if s.2 = false ∧ x.tick ≤ a.tick then (s.1 ++ [x], true) else s
def Ser.rst (x : Samp) (s : List Samp × Bool) (a : Samp) : List Samp × Bool := if a.tick = x.tick then Ser.in1 x s a else ((Ser.in1 x s a).1 ++ [a], (Ser.in1 x s a).2)
theorem Ser.fold_low (x : Samp) : ∀ (A : List Samp) (o : List Samp), (∀ a ∈ A, a.tick < x.tick) → A.foldl (Ser.rst x) (o, false) = (o ++ A, false)
  | [], o, _ => by simp
  | a :: A, o, h => by
    have ha := h a (by simp)
    have e : Ser.rst x (o, false) a = (o ++ [a], false) := by
      unfold Ser.rst Ser.in1
      rw [if_neg (by omega), if_neg (by rintro ⟨_, h⟩; omega)]
    rw [List.foldl_cons, e, Ser.fold_low x A (o ++ [a]) (fun b hb => h b (by simp [hb])), List.append_assoc]
    rfl
theorem Ser.fold_high (x : Samp) : ∀ (A : List Samp) (o : List Samp), (∀ a ∈ A, x.tick < a.tick) → A.foldl (Ser.rst x) (o, true) = (o ++ A, true)
  | [], o, _ => by simp
  | a :: A, o, h => by
    have ha := h a (by simp)
    have e : Ser.rst x (o, true) a = (o ++ [a], true) := by
      unfold Ser.rst Ser.in1
      rw [if_neg (by omega), if_neg (by simp)]
    rw [List.foldl_cons, e, Ser.fold_high x A (o ++ [a]) (fun b hb => h b (by simp [hb])), List.append_assoc]
    rfl
def Ser.fin (x : Samp) (s : List Samp × Bool) : List Samp := if s.2 = true then s.1 else s.1 ++ [x]
theorem Ser.tk_mem {L : List Samp} {P : Int → Prop} (h : ∀ k, k < L.length → P (Ser.tk L k)) : ∀ a ∈ L, P a.tick := by
  intro a ha
  obtain ⟨k, hk, rfl⟩ := List.mem_iff_getElem.1 ha
  have := h k hk
  unfold Ser.tk at this
  rwa [List.getElem?_eq_getElem hk] at this
theorem Ser.ref_ins {L : List Samp} (hs : Ser.Sorted L) (x : Samp) : Ser.fin x (L.foldl (Ser.rst x) ([], false)) = Ser.ins L x := by
  have hp := Ser.place_le L x.tick
  have hlt := Ser.place_lt L x.tick
  have hst := Ser.place_stop L x.tick
  unfold Ser.ins
  obtain ⟨p, ep⟩ : ∃ p, p = Ser.place L x.tick := ⟨_, rfl⟩
  rw [← ep] at hp hlt hst ⊢
  have hsplit : L = L.take p ++ L.drop p := (List.take_append_drop p L).symm
  have hA : ∀ a ∈ L.take p, a.tick < x.tick := Ser.tk_mem (P := fun t => t < x.tick) (fun k hk => by
    rw [List.length_take] at hk
    unfold Ser.tk
    rw [List.getElem?_take_of_lt (by omega)]
    exact hlt k (by omega))
  have h1 : (L.take p).foldl (Ser.rst x) ([], false) = (L.take p, false) := by rw [Ser.fold_low x _ _ hA]; simp
  have h2 : L.foldl (Ser.rst x) ([], false) = (L.drop p).foldl (Ser.rst x) (L.take p, false) := by
    conv => lhs; rw [hsplit]
    rw [List.foldl_append, h1]
  rw [h2]
  by_cases hlen : p < L.length
  · have hd : L.drop p = L[p] :: L.drop (p + 1) := List.drop_eq_getElem_cons hlen
    have htk : Ser.tk L p = L[p].tick := by unfold Ser.tk; rw [List.getElem?_eq_getElem hlen]; rfl
    have hge := hst hlen
    rw [htk] at hge
    have hC : ∀ a ∈ L.drop (p + 1), x.tick < a.tick := Ser.tk_mem (P := fun t => x.tick < t) (fun k hk => by
      rw [List.length_drop] at hk
      unfold Ser.tk
      rw [List.getElem?_drop]
      have := hs p (p + 1 + k) (by omega) (by omega)
      rw [htk] at this
      show x.tick < Ser.tk L (p + 1 + k)
      omega)
    have e1 : Ser.in1 x (L.take p, false) L[p] = (L.take p ++ [x], true) := if_pos ⟨rfl, hge⟩
    by_cases he : L[p].tick = x.tick
    · have e2 : Ser.rst x (L.take p, false) L[p] = (L.take p ++ [x], true) := by unfold Ser.rst; rw [if_pos he, e1]
      rw [if_pos ⟨hlen, by rw [htk]; exact he⟩, hd, List.foldl_cons, e2, Ser.fold_high x _ _ hC]
      show L.take p ++ [x] ++ L.drop (p + 1) = L.set p x
      rw [List.set_eq_take_append_cons_drop, if_pos hlen, List.append_assoc]
      rfl
    · have e2 : Ser.rst x (L.take p, false) L[p] = (L.take p ++ [x] ++ [L[p]], true) := by unfold Ser.rst; rw [if_neg he, e1]
      rw [if_neg (fun h => he (by rw [← htk]; exact h.2)), hd, List.foldl_cons, e2, Ser.fold_high x _ _ hC]
      show L.take p ++ [x] ++ [L[p]] ++ L.drop (p + 1) = _
      simp
  · rw [if_neg (fun h => hlen h.1), List.drop_of_length_le (by omega)]
    rfl
theorem Ser.rst_next (L : List Samp) (x : Samp) (k : Nat) (h : k < L.length) : (L.take (k + 1)).foldl (Ser.rst x) ([], false) = Ser.rst x ((L.take k).foldl (Ser.rst x) ([], false)) (L[k]?.getD default) := by
  rw [List.take_succ_eq_append_getElem h, List.foldl_append, List.getElem?_eq_getElem h]
  rfl
theorem Ser.rst_len (L : List Samp) (x : Samp) : ∀ k, k ≤ L.length → ((L.take k).foldl (Ser.rst x) ([], false)).1.length + (if ((L.take k).foldl (Ser.rst x) ([], false)).2 = true then 0 else 1) ≤ k + 1
  | 0, _ => by simp
  | k + 1, hk => by
    have ih := Ser.rst_len L x k (by omega)
    rw [Ser.rst_next L x k (by omega)]
    obtain ⟨s, hs⟩ : ∃ s, s = (L.take k).foldl (Ser.rst x) ([], false) := ⟨_, rfl⟩
    rw [← hs] at ih ⊢
    obtain ⟨o, b⟩ := s
    unfold Ser.rst Ser.in1
    cases b <;> simp only [Bool.false_eq_true, if_false, if_true, true_and] at ih ⊢ <;> (repeat' split) <;> simp_all <;> omega
end Go.Proofs.Ytapgcbjlgekpeaa

/- The reference's Put, walked. -/
namespace Go.Proofs.Ytapgcbjlgekpeaa
open Go.ChangeShapes Go.WideShapes Go.ChangeAt Go.RowKit

theorem sampVals_one1 (a : Samp) : ∀ u ∈ (#[.int .i64 a.tick, .int .i64 a.val] : Array Value).toList, u.oneCell' = true := by
  intro u h
  simp at h
  rcases h with rfl | rfl <;> rfl

theorem Samps.drop1 {w : World} {b off : Nat} {l : List Samp} (h : Samps w (some ⟨b, off, none⟩) l) : Samps w (some ⟨b, off + 2, none⟩) (l.drop 1) := by
  rcases h with h0 | ⟨b', off', e, hb, hc⟩
  · left
    rw [List.length_drop]
    omega
  · simp only [Option.some.injEq, Addr.mk.injEq, and_true] at e
    obtain ⟨rfl, rfl⟩ := e
    refine .inr ⟨b, off + 2, rfl, hb, fun j hj => ?_⟩
    rw [List.length_drop] at hj
    have := hc (j + 2) (by omega)
    rw [show off + 2 + j = off + (j + 2) by omega, this]
    show some (Value.int .i64 ((l[(j + 2) / 2]?.getD default).get ((j + 2) % 2))) = some (Value.int .i64 (((l.drop 1)[j / 2]?.getD default).get (j % 2)))
    rw [show (j + 2) / 2 = 1 + j / 2 by omega, show (j + 2) % 2 = j % 2 by omega, List.getElem?_drop]

set_option maxHeartbeats 4000000 in
set_option maxRecDepth 100000 in
theorem ref08_put (p : Option Addr) (n c : Nat) (L : List Samp) (hn : L.length = n) (hb : n ≤ 1000) (hsrt : Ser.Sorted L) (room : Nat) (x : Samp) (w : World) (hs : Samps w p L) :
    Calls Try.prog 83 #[.slice p n c, .int .i64 room, .agg #[.int .i64 x.tick, .int .i64 x.val]] w fun e w' => ∃ q d, e = .returned (.slice q (Ser.put L room x).length d) ∧ (Ser.put L room x).length ≤ d ∧ Samps w' q (Ser.put L room x) ∧ (∀ ad, q = some ad → w.heap.size ≤ ad.block ∧ ad.block < w'.heap.size) ∧ Below w.heap.size w w' := by
  have HFIN : Hid (Ser.fin x ((L.take n).foldl (Ser.rst x) ([], false)) = Ser.ins L x) := by
    show _ = _
    rw [← hn, List.take_length]
    exact Ser.ref_ins hsrt x
  have HPUT : Hid (Ser.put L room x = Ser.cutTo room (Ser.ins L x)) := rfl
  have HIL : Hid ((Ser.ins L x).length ≤ n + 1) := by show _ ≤ _; rw [← hn]; exact Ser.ins_length L x
  obtain ⟨m, em⟩ : ∃ m, m = Ser.put L room x := ⟨_, rfl⟩
  obtain ⟨mi, emi⟩ : ∃ m, m = Ser.ins L x := ⟨_, rfl⟩
  rw [← em, ← emi] at HPUT
  rw [← emi] at HFIN HIL
  rw [← em]
  have HS := Lib.hid hs
  have HN := Lib.hid hn
  have HLEN := Lib.hid (fun k => Ser.rst_len L x k)
  have HNX := Lib.hid (fun k => Ser.rst_next L x k)
  clear em emi hsrt hs hn
  obtain ⟨W0, hW0⟩ : ∃ W, W = w.alloc (.cells #[.int .i64 x.tick, .int .i64 x.val] 23) := ⟨_, rfl⟩
  have K0 : Hid (W0.heap[w.heap.size]? = some (.cells #[.int .i64 x.tick, .int .i64 x.val] 23 (0, 0))) := by show _ = _; rw [hW0]; exact heap_alloc_at _ _ _ rfl
  have BW0 : Hid (Below w.heap.size w W0) := by show Below _ _ _; rw [hW0]; exact below1 _ _
  have hW0s : Hid (w.heap.size < W0.heap.size) := lt_of_heap K0.out
  go_enter Try.func83, Try.ntmps83
  go_upto_region 1 with fail
  rw [← hW0]
  clear hW0
  go_wp2_with fail
  go_loopw [7, 8, 9] (fun o b i wr => ∃ k : Nat, k ≤ n ∧ i = .int .i64 k ∧ b = .bool ((L.take k).foldl (Ser.rst x) ([], false)).2 ∧ Owns wr W0.heap.size 2 o ((L.take k).foldl (Ser.rst x) ([], false)).1.length (sampVals ((L.take k).foldl (Ser.rst x) ([], false)).1) ∧ Below W0.heap.size W0 wr) (fun _ _ i _ => n - (intOf i).toNat)
  case atStart => exact ⟨0, by omega, rfl, rfl, owns_nil _ _ _, Below.refl _ _⟩
  case round =>
    obtain ⟨k, hk, rfl, rfl, hO, hBW⟩ := hrel
    have hlen := HLEN.out k (by have := HN.out; omega)
    by_cases hlt : k < n
    · have hkl : k < L.length := by have := HN.out; omega
      have hnx := HNX.out k hkl
      obtain ⟨s, es⟩ : ∃ s, s = (L.take k).foldl (Ser.rst x) ([], false) := ⟨_, rfl⟩
      rw [← es] at hlen hnx hO ⊢
      obtain ⟨bo, off, rfl, hbw, _⟩ := HS.out.cells k hkl
      have HC := Lib.hid (fun (W : World) (h : Below w.heap.size w W) => (HS.out.below h).cells k hkl)
      obtain ⟨a, ea⟩ : ∃ a, a = L[k]?.getD default := ⟨_, rfl⟩
      rw [← ea] at hnx
      simp only [← ea] at HC
      obtain ⟨s2, es2⟩ : ∃ s, s = (L.take (k + 1)).foldl (Ser.rst x) ([], false) := ⟨_, rfl⟩
      have ES2 := Lib.hid es2
      rw [← es2] at hnx
      have HI1 : Hid (Ser.in1 x s a = if s.2 = false ∧ x.tick ≤ a.tick then (s.1 ++ [x], true) else s) := rfl
      have HRS : Hid (s2 = if a.tick = x.tick then Ser.in1 x s a else ((Ser.in1 x s a).1 ++ [a], (Ser.in1 x s a).2)) := hnx
      obtain ⟨s1, es1⟩ : ∃ z, z = Ser.in1 x s a := ⟨_, rfl⟩
      have es1' : s1 = Ser.in1 x s a := es1
      rw [← es1] at HI1 HRS
      obtain ⟨o, b⟩ := s
      simp only at hlen hO HI1 ⊢
      have HO := Lib.hid hO
      have HBW := Lib.hid hBW
      obtain ⟨l, el⟩ : ∃ l, l = o.length := ⟨_, rfl⟩
      rw [← el] at hlen HO
      have EL := Lib.hid el
      obtain ⟨po, co, rfl, hco, _⟩ := HO.out.sl
      have BW : Hid (Below w.heap.size w wr) := BW0.out.trans (HBW.out.mono (Nat.le_of_lt hW0s.out))
      have KB : Hid (wr.heap[w.heap.size]? = some (.cells #[.int .i64 x.tick, .int .i64 x.val] 23 (0, 0))) := (HBW.out.block _ hW0s.out).trans K0.out
      obtain ⟨b', off', e', _, c0, c1⟩ := HC.out wr BW.out
      simp only [Option.some.injEq, Addr.mk.injEq, and_true] at e'
      obtain ⟨rfl, rfl⟩ := e'
      have C0 := Lib.hid c0
      have C1 := Lib.hid c1
      have i1 : (0 : Int) ≤ (k : Int) := by omega
      have i2 : (k : Int) < (n : Int) := by omega
      clear hO hBW es ea es2 hnx es1 es1' el hkl
      obtain ⟨tick, val⟩ := a
      obtain ⟨xt, xv⟩ := x
      simp only at HI1 HRS c0 c1 C0 C1 KB
      have x0 : wr.cell? ⟨w.heap.size, 0, none⟩ = some (.int .i64 xt) := by rw [cell_of_row _ _ _ _ _ _ KB.out]; rfl
      go_upto_region 6 with fail
      go_cut [27] from 10 to 46 (fun s27 wx => (∃ cb : Bool, s27 = .bool cb ∧ Hid (s1 = if cb = true then (o ++ [⟨xt, xv⟩], true) else (o, b))) ∧ Below W0.heap.size W0 wx ∧ Owns wx W0.heap.size 2 (.slice po l co) l (sampVals o))
      case first =>
        cases b with
        | true =>
          have HX : Hid (s1 = if false = true then (o ++ [⟨xt, xv⟩], true) else (o, true)) := HI1.out.trans (if_neg (by rintro ⟨h, _⟩; cases h))
          clear HI1
          go_quiet (fail)
          go_wp2_with fail
          go_meet
          exact ⟨⟨false, rfl, HX.out⟩, below_drewN HBW.out _, HO.out.same (Nat.le_refl _) (fun _ _ => rfl)⟩
        | false =>
          by_cases hge : xt ≤ tick
          · have HX : Hid (s1 = if true = true then (o ++ [⟨xt, xv⟩], true) else (o, false)) := HI1.out.trans (if_pos ⟨rfl, hge⟩)
            have d1 : decide (xt ≤ tick) = true := decide_eq_true hge
            clear HI1
            go_quiet (fail)
            go_wp2_with fail
            go_meet
            exact ⟨⟨true, rfl, HX.out⟩, below_drewN HBW.out _, HO.out.same (Nat.le_refl _) (fun _ _ => rfl)⟩
          · have HX : Hid (s1 = if false = true then (o ++ [⟨xt, xv⟩], true) else (o, false)) := HI1.out.trans (if_neg (fun h => hge h.2))
            have d1 : decide (xt ≤ tick) = false := decide_eq_false hge
            clear HI1
            go_quiet (fail)
            go_wp2_with fail
            go_meet
            exact ⟨⟨false, rfl, HX.out⟩, below_drewN HBW.out _, HO.out.same (Nat.le_refl _) (fun _ _ => rfl)⟩
      case rest =>
        obtain ⟨⟨cb, rfl, hX⟩, hb2, ho2⟩ := hcut
        have HX := Lib.hid hX.out
        have HB2 := Lib.hid hb2
        have HO2 := Lib.hid ho2
        obtain ⟨wa, ewa⟩ : ∃ W, W = wc := ⟨_, rfl⟩
        rw [← ewa] at HB2 HO2 ⊢
        have KB2 : Hid (wa.heap[w.heap.size]? = some (.cells #[.int .i64 xt, .int .i64 xv] 23 (0, 0))) := (HB2.out.block _ hW0s.out).trans K0.out
        clear hX hb2 ho2 ewa c0 c1 x0 HO HBW BW KB C0 C1 HI1
        go_upto_if 27 with fail
        go_cut [7, 8] from 10 to 46 (fun s7 s8 wx => s8 = .bool s1.2 ∧ Owns wx W0.heap.size 2 s7 s1.1.length (sampVals s1.1) ∧ Below W0.heap.size W0 wx)
        case first =>
          cases cb with
          | false =>
            have hx : s1 = (o, b) := HX.out
            have HX2 := Lib.hid hx
            clear HX hx
            go_wp2_with fail
            go_meet
            exact ⟨by rw [HX2.out], by rw [HX2.out]; show Owns _ _ _ _ o.length _; rw [← EL.out]; exact HO2.out, HB2.out⟩
          | true =>
            have hx : s1 = (o ++ [⟨xt, xv⟩], true) := HX.out
            have HX2 := Lib.hid hx
            clear HX hx
            go_wp2_with (first | ((with_reducible refine wpList_load_rowAs rfl 23 _ rfl (w.heap.size) ?_ 23 #[.int .i64 xt, .int .i64 xv] (0, 0) _ 2 ?_ Try.underlying23 rfl (by kernel_rfl) ?_ ?_); exact rfl; exact KB2.out; exact rfl) | (at_builtin; refine wpList_append_new2 rfl _ _ 37 rfl _ _ 23 rfl W0.heap.size 23 (.agg #[.int .i64 0, .int .i64 0]) 2 16 Try.underlying37 sampInfo rfl (by decide) _ _ _ rfl HO2.out rfl rfl (sampVals_one1 ⟨xt, xv⟩) (by unfold maxLen; omega) (by omega) HB2.out.size ?_; intro u1 x1 ha1 hg1 hb1 hw1; have HA1 := Lib.hid ha1; have HB1 := Lib.hid hb1; clear ha1 hg1 hb1 hw1))
            go_meet
            exact ⟨by rw [HX2.out], by rw [HX2.out]; show Owns _ _ _ _ (o ++ [(⟨xt, xv⟩ : Samp)]).length (sampVals (o ++ [⟨xt, xv⟩])); rw [sampVals_append, List.length_append, ← EL.out]; exact HA1.out, HB2.out.trans HB1.out⟩
        case rest =>
          obtain ⟨rfl, ho3, hb3⟩ := hcut
          have HB3 := Lib.hid hb3
          have hl1 : Hid (s1.1.length ≤ l + 1) := by
            show _ ≤ _
            have := HX.out
            rw [this]
            cases cb
            · show o.length ≤ _; rw [← EL.out]; omega
            · show (o ++ [_]).length ≤ _; rw [List.length_append, ← EL.out]; simp
          obtain ⟨o1, b1⟩ := s1
          obtain ⟨l1, el1⟩ : ∃ l, l = o1.length := ⟨_, rfl⟩
          simp only at ho3 hl1 HRS ⊢
          rw [← el1] at ho3 hl1
          have EL1 := Lib.hid el1
          have HO3 := Lib.hid ho3
          have hl1' := hl1.out
          obtain ⟨p1, c1', e1, hc1, _⟩ := ho3.sl
          have BW3 : Hid (Below w.heap.size w wc) := BW0.out.trans (HB3.out.mono (Nat.le_of_lt hW0s.out))
          obtain ⟨b', off', e', _, q0, q1⟩ := HC.out wc BW3.out
          simp only [Option.some.injEq, Addr.mk.injEq, and_true] at e'
          obtain ⟨rfl, rfl⟩ := e'
          simp only at q0 q1
          have KB3 := (HB3.out.block _ hW0s.out).trans K0.out
          have x0 : wc.cell? ⟨w.heap.size, 0, none⟩ = some (.int .i64 xt) := by rw [cell_of_row _ _ _ _ _ _ KB3]; rfl
          clear HX HB2 HO2 KB2 ho3 hb3 el1 KB3 wa
          subst e1
          by_cases htx : tick = xt
          · subst htx
            have hx : s2 = (o1, b1) := HRS.out.trans (if_pos rfl)
            have HX2 := Lib.hid hx
            clear hx HRS
            go_wp2_with fail
            go_quiet (fail)
            go_wp2
            exact ⟨⟨k + 1, by omega, by go_num, by rw [← ES2.out, HX2.out], by rw [← ES2.out, HX2.out]; show Owns _ _ _ _ o1.length (sampVals o1); rw [← EL1.out]; exact HO3.out.same (Nat.le_refl _) (fun _ _ => rfl), below_drewN HB3.out _⟩, by simp [intOf]; omega⟩
          · have hx : s2 = (o1 ++ [⟨tick, val⟩], b1) := HRS.out.trans (if_neg htx)
            have HX2 := Lib.hid hx
            have b1' : (tick == xt) = false := beq_eq_false_iff_ne.2 htx
            have b2' : (tick != xt) = true := by simpa using htx
            clear hx HRS
            go_wp2_with fail
            go_quiet (fail)
            obtain ⟨wz, ewz⟩ : ∃ W, W = wc.drewN nq := ⟨_, rfl⟩
            have HOZ : Hid (Owns wz W0.heap.size 2 (.slice p1 l1 c1') l1 (sampVals o1)) := by show Owns _ _ _ _ _ _; rw [ewz]; exact HO3.out.same (Nat.le_refl _) (fun _ _ => rfl)
            have HBZ : Hid (Below W0.heap.size W0 wz) := by show Below _ _ _; rw [ewz]; exact below_drewN HB3.out _
            have r0 : wz.cell? ⟨bo, off + k * 2, none⟩ = some (.int .i64 tick) := by rw [ewz]; exact q0
            have r1 : wz.cell? ⟨bo, off + k * 2 + 1, none⟩ = some (.int .i64 val) := by rw [ewz]; exact q1
            rw [← ewz]
            clear ewz HO3 HB3 q0 q1 x0 BW3
            go_wp2_with (at_builtin; refine wpList_append_new2 rfl _ _ 37 rfl _ _ 23 rfl W0.heap.size 23 (.agg #[.int .i64 0, .int .i64 0]) 2 16 Try.underlying37 sampInfo rfl (by decide) _ _ _ rfl HOZ.out rfl rfl (sampVals_one1 ⟨tick, val⟩) (by unfold maxLen; omega) (by omega) HBZ.out.size ?_; intro u1 x1 ha1 hg1 hb1 hw1; have HA1 := Lib.hid ha1; have HB1 := Lib.hid hb1; clear ha1 hg1 hb1 hw1)
            exact ⟨⟨k + 1, by omega, by go_num, by rw [← ES2.out, HX2.out], by rw [← ES2.out, HX2.out]; show Owns _ _ _ _ (o1 ++ [(⟨tick, val⟩ : Samp)]).length (sampVals (o1 ++ [⟨tick, val⟩])); rw [sampVals_append, List.length_append, ← EL1.out]; exact HA1.out, HBZ.out.trans HB1.out⟩, by simp [intOf]; omega⟩
    · obtain rfl : k = n := by omega
      rw [show (L.take k).foldl (Ser.rst x) ([], false) = (L.take k).foldl (Ser.rst x) ([], false) from rfl] at HFIN
      obtain ⟨sf, esf⟩ : ∃ s, s = (L.take k).foldl (Ser.rst x) ([], false) := ⟨_, rfl⟩
      rw [← esf] at HFIN hO hlen ⊢
      clear esf
      obtain ⟨o, b⟩ := sf
      simp only at hO hlen ⊢
      obtain ⟨l, el⟩ : ∃ l, l = o.length := ⟨_, rfl⟩
      rw [← el] at hO hlen
      have EL := Lib.hid el
      have HOZ := Lib.hid hO
      have HBZ := Lib.hid hBW
      have BW : Hid (Below w.heap.size w wr) := BW0.out.trans (hBW.mono (Nat.le_of_lt hW0s.out))
      have KBZ : Hid (wr.heap[w.heap.size]? = some (.cells #[.int .i64 x.tick, .int .i64 x.val] 23 (0, 0))) := (hBW.block _ hW0s.out).trans K0.out
      obtain ⟨po, co, rfl, hco, _⟩ := HOZ.out.sl
      obtain ⟨xt, xv⟩ := x
      simp only at KBZ
      clear hO hBW el HNX HLEN HS
      go_upto_if 48 with fail
      go_cut [7] from 10 to 59 (fun s7 wx => Owns wx W0.heap.size 2 s7 mi.length (sampVals mi) ∧ Below W0.heap.size W0 wx)
      case first =>
        cases b with
        | true =>
          have em : mi = o := HFIN.out.symm
          have EMM := Lib.hid em
          clear em HFIN
          go_wp2_with fail
          go_meet
          exact ⟨by rw [EMM.out, ← EL.out]; exact HOZ.out, HBZ.out⟩
        | false =>
          have em : mi = o ++ [⟨xt, xv⟩] := HFIN.out.symm
          have EMM := Lib.hid em
          clear em HFIN
          go_wp2_with (first | ((with_reducible refine wpList_load_rowAs rfl 23 _ rfl (w.heap.size) ?_ 23 #[.int .i64 xt, .int .i64 xv] (0, 0) _ 2 ?_ Try.underlying23 rfl (by kernel_rfl) ?_ ?_); exact rfl; exact KBZ.out; exact rfl) | (at_builtin; refine wpList_append_new2 rfl _ _ 37 rfl _ _ 23 rfl W0.heap.size 23 (.agg #[.int .i64 0, .int .i64 0]) 2 16 Try.underlying37 sampInfo rfl (by decide) _ _ _ rfl HOZ.out rfl rfl (sampVals_one1 ⟨xt, xv⟩) (by unfold maxLen; omega) (by omega) HBZ.out.size ?_; intro u1 x1 ha1 hg1 hb1 hw1; have HA1 := Lib.hid ha1; have HB1 := Lib.hid hb1; clear ha1 hg1 hb1 hw1))
          go_meet
          exact ⟨by rw [EMM.out, sampVals_append, List.length_append, ← EL.out]; exact HA1.out, HBZ.out.trans HB1.out⟩
      case rest =>
        obtain ⟨ho, hb9⟩ := hcut
        have BE : Hid (Below w.heap.size w wc) := BW0.out.trans (hb9.mono (Nat.le_of_lt hW0s.out))
        have HSM := Lib.hid (samps_of_owns ho)
        have HOC := Lib.hid ho
        obtain ⟨l2, el2⟩ : ∃ l, l = mi.length := ⟨_, rfl⟩
        have EL2 := Lib.hid el2
        have hil := HIL.out
        rw [← el2] at HSM ho hil HOC
        obtain ⟨p2, c2, rfl, hc2, _⟩ := ho.sl
        clear ho hb9 HOZ HBZ KBZ HFIN
        by_cases hr : room < l2
        · have ecut : m = mi.drop 1 := HPUT.out.trans (if_pos (by rw [← el2]; exact hr))
          have EC := Lib.hid ecut
          have d1 : decide ((room : Int) < l2) = true := decide_eq_true (by omega)
          have d2 : decide (room < l2) = true := decide_eq_true hr
          have hml : Hid (m.length = l2 - 1) := by show _ = _; rw [ecut, List.length_drop, ← el2]
          obtain ⟨g, rfl, hBg, hgw, _⟩ := HOC.out.capIs (by omega)
          have hws := hW0s.out
          have HSD : Hid (Samps wc (some ⟨g, 0 + 2, none⟩) m) := by
            show Samps _ _ _
            obtain ⟨p3, c3, e3, _, hs3⟩ := HSM.out
            simp only [Value.slice.injEq] at e3
            obtain ⟨rfl, _, _⟩ := e3
            rw [ecut]
            exact hs3.drop1
          clear ecut el2 HPUT
          go_wp2_with fail
          · go_ret
            rw [hml.out]
            exact ⟨_, _, rfl, by show l2 - 1 ≤ 0; omega, .inl (by rw [hml.out]; omega), (fun ad had => by cases had; exact ⟨by show w.heap.size ≤ g; omega, hgw⟩), BE.out⟩
          · go_ret
            rw [hml.out]
            exact ⟨_, _, rfl, by show l2 - 1 ≤ c2 - 1; omega, HSD.out, (fun ad had => by cases had; exact ⟨by show w.heap.size ≤ g; omega, hgw⟩), BE.out⟩
        · have ecut : m = mi := HPUT.out.trans (if_neg (by rw [← el2]; exact hr))
          have EC := Lib.hid ecut
          have d1 : decide ((room : Int) < l2) = false := decide_eq_false (by omega)
          have d2 : decide (room < l2) = false := decide_eq_false hr
          have HSD : Hid (Samps wc p2 m ∧ m.length = l2) := by
            refine ⟨?_, by rw [ecut]; exact el2.symm⟩
            obtain ⟨p3, c3, e3, _, hs3⟩ := HSM.out
            simp only [Value.slice.injEq] at e3
            obtain ⟨rfl, _, _⟩ := e3
            rw [ecut]
            exact hs3
          clear ecut el2 HPUT
          go_wp2_with fail
          go_ret
          rw [HSD.out.2]
          have hws := hW0s.out
          exact ⟨_, _, rfl, hc2, HSD.out.1, (fun ad had => by
            subst had
            rcases HOC.out.2 with ⟨h, _⟩ | ⟨g, cap, h, h1, h2, _⟩
            · cases h
            · simp only [Value.slice.injEq, Option.some.injEq] at h
              rw [h.1]
              exact ⟨by show w.heap.size ≤ g; omega, h2⟩), BE.out⟩
end Go.Proofs.Ytapgcbjlgekpeaa

/- A series: samples compared; the last one; how many; all that are put. -/
namespace Go.Proofs.Ytapgcbjlgekpeaa
open Go.ChangeShapes Go.WideShapes Go.ChangeAt Go.RowKit

theorem samp_equal_yes (a : Samp) (w : World) : (Op.equalIn 10000 23 (.agg #[.int .i64 a.tick, .int .i64 a.val]) (.agg #[.int .i64 a.tick, .int .i64 a.val])).run Try.prog w = .ok true w := by
  simp [go_sem]
theorem Samps.at {w : World} {b off : Nat} {l : List Samp} (h : Samps w (some ⟨b, off, none⟩) l) (k : Nat) (hk : k < l.length) :
    w.cell? ⟨b, off + k * 2, none⟩ = some (.int .i64 (l[k]?.getD default).tick) ∧ w.cell? ⟨b, off + k * 2 + 1, none⟩ = some (.int .i64 (l[k]?.getD default).val) := by
  obtain ⟨b', off', e, _, h2⟩ := h.cells k hk
  simp only [Option.some.injEq, Addr.mk.injEq] at e
  obtain ⟨rfl, rfl, _⟩ := e
  exact h2

set_option maxHeartbeats 1000000 in
set_option maxRecDepth 100000 in
/-- Two lists that are one: alike. -/
theorem ref08_alike (p q : Option Addr) (n c d : Nat) (l : List Samp) (hn : l.length = n) (hb : n ≤ 9223372036854775807) (w : World) (hs : Samps w p l) (ht : Samps w q l) :
    Calls Try.prog 38 #[.slice p n c, .slice q n d] w fun e w' => e = .returned (.bool true) ∧ Below w.heap.size w w' := by
  by_cases h0 : n = 0
  · subst h0
    clear hs ht
    go_enter Try.func38, Try.ntmps38
    go_wp2
    go_loopw [5] (fun i wr => i = .int .i64 0 ∧ Below w.heap.size w wr) (fun i _ => 0)
    case atStart => exact ⟨rfl, Below.refl _ _⟩
    case round =>
      obtain ⟨rfl, hB⟩ := hrel
      have HB := Lib.hid hB
      clear hB
      go_wp2
      go_ret
      exact ⟨rfl, HB.out⟩
  obtain ⟨b, off, rfl, hbw, _⟩ := hs.cells 0 (by omega)
  obtain ⟨b2, off2, rfl, hbw2, _⟩ := ht.cells 0 (by omega)
  have HS := Lib.hid hs
  have HT := Lib.hid ht
  have HN := Lib.hid hn
  have hst := stab_and (stab_below (B := w.heap.size) (w0 := w) (Nat.le_refl _)) (stab_pure True)
  clear hs ht hn hbw hbw2
  go_enter Try.func38, Try.ntmps38
  go_wp2
  go_loopw [5] (fun i wr => ∃ k : Nat, k ≤ n ∧ i = .int .i64 k ∧ Below w.heap.size w wr) (fun i _ => n - (intOf i).toNat)
  case atStart => exact ⟨0, by omega, rfl, Below.refl _ _⟩
  case round =>
    obtain ⟨k, hk, rfl, hB⟩ := hrel
    have HB := Lib.hid hB
    clear hB
    by_cases hlt : k < n
    · have A1 := Lib.hid (fun W : World => fun h : Below w.heap.size w W => (HS.out.below h).at k (by have := HN.out; omega))
      have A2 := Lib.hid (fun W : World => fun h : Below w.heap.size w W => (HT.out.below h).at k (by have := HN.out; omega))
      obtain ⟨a, ea⟩ : ∃ a, a = l[k]?.getD default := ⟨_, rfl⟩
      simp only [← ea] at A1 A2
      clear ea
      obtain ⟨tick, val⟩ := a
      simp only at A1 A2
      go_wp2_with fail
      refine wp_region_E mixed [] hst ⟨below_drewN HB.out 1, trivial⟩ ?_
      refine wpAnyE_take 0 rfl (by kernel_rfl) (by kernel_rfl) (by kernel_rfl) (fun _ _ _ h => h) hst (EffB.pure rfl (fun _ => rfl)) (.inr (EffB.pure rfl (fun _ => rfl))) ?_
      simp only [act_norm]
      refine wpAnyE_take 1 rfl (by kernel_rfl) (by kernel_rfl) (by kernel_rfl) (fun _ _ _ h => h) hst (EffB.pure rfl (fun _ => rfl)) (.inr (EffB.pure rfl (fun _ => rfl))) ?_
      simp only [act_norm]
      refine wpAnyE_take 2 (v := .pointer (some ⟨b, off + k * 2, none⟩)) rfl (by kernel_rfl) (by kernel_rfl) (by kernel_rfl) (fun _ _ _ h => h) hst (EffB.run rfl rfl (fun wd hS => ?_)) (.inl (by kernel_rfl)) ?_
      · go_wp2; exact ⟨rfl, Below.refl _ _⟩
      simp only [act_norm]
      refine wpAnyE_take 3 (v := .agg #[.int .i64 tick, .int .i64 val]) rfl (by kernel_rfl) (by kernel_rfl) (by kernel_rfl) (fun _ _ _ h => h) hst (EffB.run rfl rfl (fun wd hS => ?_)) (.inl (by kernel_rfl)) ?_
      · obtain ⟨c0, c1⟩ := A1.out wd hS.1; go_wp2; exact ⟨rfl, Below.refl _ _⟩
      simp only [act_norm]
      refine wpAnyE_take 4 rfl (by kernel_rfl) (by kernel_rfl) (by kernel_rfl) (fun _ _ _ h => h) hst (EffB.pure rfl (fun _ => rfl)) (.inr (EffB.pure rfl (fun _ => rfl))) ?_
      simp only [act_norm]
      refine wpAnyE_take 5 rfl (by kernel_rfl) (by kernel_rfl) (by kernel_rfl) (fun _ _ _ h => h) hst (EffB.pure rfl (fun _ => rfl)) (.inr (EffB.pure rfl (fun _ => rfl))) ?_
      simp only [act_norm]
      refine wpAnyE_take 6 (v := .pointer (some ⟨b2, off2 + k * 2, none⟩)) rfl (by kernel_rfl) (by kernel_rfl) (by kernel_rfl) (fun _ _ _ h => h) hst (EffB.run rfl rfl (fun wd hS => ?_)) (.inl (by kernel_rfl)) ?_
      · go_wp2; exact ⟨rfl, Below.refl _ _⟩
      simp only [act_norm]
      refine wpAnyE_take 7 (v := .agg #[.int .i64 tick, .int .i64 val]) rfl (by kernel_rfl) (by kernel_rfl) (by kernel_rfl) (fun _ _ _ h => h) hst (EffB.run rfl rfl (fun wd hS => ?_)) (.inl (by kernel_rfl)) ?_
      · obtain ⟨c0, c1⟩ := A2.out wd hS.1; go_wp2; exact ⟨rfl, Below.refl _ _⟩
      simp only [act_norm]
      refine wpAnyE_take 8 (v := .bool false) rfl (by kernel_rfl) (by kernel_rfl) (by kernel_rfl) (fun _ _ _ h => h) hst (EffB.run rfl rfl (fun wd hS => ?_)) (.inl (by kernel_rfl)) ?_
      · exact wp_neq_agg _ _ _ _ rfl _ _ rfl rfl true (by kernel_rfl) (samp_equal_yes ⟨tick, val⟩ _) ⟨rfl, Below.refl _ _⟩
      simp only [act_norm]
      refine wpAnyE_done (by kernel_rfl) (fun wd hS => ?_) _
      have HB2 := Lib.hid hS.1
      clear hS HB
      go_wp2
      exact ⟨⟨k + 1, by omega, by go_num, HB2.out⟩, by simp [intOf]; omega⟩
    · obtain rfl : k = n := by omega
      go_wp2
      go_ret
      exact ⟨rfl, HB.out⟩

/-- A sample is put, if it may be. -/
def Ser.step (room : Nat) (L : List Samp) (x : Samp) : List Samp := if Ser.code x = 0 then Ser.put L room x else L
def Ser.of (room : Nat) (l : List Samp) (k : Nat) : List Samp := (l.take k).foldl (Ser.step room) []
theorem Ser.of_next (room : Nat) (l : List Samp) (k : Nat) (h : k < l.length) : Ser.of room l (k + 1) = Ser.step room (Ser.of room l k) (l[k]?.getD default) := by
  unfold Ser.of
  rw [List.take_succ_eq_append_getElem h, List.foldl_append, List.getElem?_eq_getElem h]
  rfl
theorem Ser.step_sorted {L : List Samp} (h : Ser.Sorted L) (room : Nat) (x : Samp) : Ser.Sorted (Ser.step room L x) := by
  unfold Ser.step
  split
  · exact Ser.put_sorted h room x
  · exact h
theorem Ser.step_length {L : List Samp} {room : Nat} (hr : 1 ≤ room) (h : L.length ≤ room) (x : Samp) : (Ser.step room L x).length ≤ room := by
  unfold Ser.step
  split
  · exact Ser.put_length hr h x
  · exact h
theorem Ser.step_In {L : List Samp} (h : ∀ a ∈ L, a.In) (room : Nat) (x : Samp) (hx : x.In) : ∀ a ∈ Ser.step room L x, a.In := by
  unfold Ser.step
  split
  · exact Ser.put_In h room x hx
  · exact h
theorem Ser.of_sorted (room : Nat) (l : List Samp) : ∀ k, k ≤ l.length → Ser.Sorted (Ser.of room l k)
  | 0, _ => Ser.nil_sorted
  | k + 1, h => by rw [Ser.of_next room l k (by omega)]; exact Ser.step_sorted (Ser.of_sorted room l k (by omega)) _ _
theorem Ser.of_length {room : Nat} (hr : 1 ≤ room) (l : List Samp) : ∀ k, k ≤ l.length → (Ser.of room l k).length ≤ room
  | 0, _ => by simp [Ser.of]
  | k + 1, h => by rw [Ser.of_next room l k (by omega)]; exact Ser.step_length hr (Ser.of_length hr l k (by omega)) _
theorem Ser.of_In (room : Nat) (l : List Samp) (hl : ∀ a ∈ l, a.In) : ∀ k, k ≤ l.length → ∀ a ∈ Ser.of room l k, a.In
  | 0, _ => by simp [Ser.of]
  | k + 1, h => by rw [Ser.of_next room l k (by omega)]; exact Ser.step_In (Ser.of_In room l hl k (by omega)) _ _ (by rw [List.getElem?_eq_getElem (by omega)]; exact hl _ (List.getElem_mem _))

/-- The state behind Put, of any sample. -/
def StepOf (w : World) (B s : Nat) (v : Value) (room : Nat) (L : List Samp) (c : Int) (e : Ending) (w' : World) : Prop :=
  e = .returned (.int .i64 c) ∧ ∃ v', SerAt w' B s v' room L ∧ Turned (fun k => k = s ∨ v.ownBlock = some k) w w' ∧ (∀ k, v'.ownBlock = some k → v.ownBlock = some k ∨ w.heap.size ≤ k)
theorem ser_step {w : World} {B s : Nat} {v : Value} {room : Nat} {L : List Samp} (h : SerAt w B s v room L) (hB : B ≤ w.heap.size) (x : Samp) :
    Calls Try.prog 135 #[.pointer (some ⟨s, 0, none⟩), .int .i64 x.tick, .int .i64 x.val] w (StepOf w B s v room (Ser.step room L x) (Ser.code x)) := by
  by_cases hc : Ser.code x = 0
  · have e : Ser.step room L x = Ser.put L room x := if_pos hc
    rw [e, hc]
    exact ser_put h hB x hc
  · have e : Ser.step room L x = L := if_neg hc
    rw [e]
    refine (ser_put_bad x hc w).mono ?_
    rintro e w' ⟨rfl, rfl⟩
    exact ⟨rfl, v, h, Turned.refl, fun k hk => .inl hk⟩
end Go.Proofs.Ytapgcbjlgekpeaa
