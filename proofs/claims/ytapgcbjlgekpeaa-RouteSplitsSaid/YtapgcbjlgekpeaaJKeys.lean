/- Keys as data (two words each). -/
import Derived.Test.YtapgcbjlgekpeaaJLaws05
import Derived.Test.YtapgcbjlgekpeaaJSamp
import Derived.Test.YtapgcbjlgekpeaaJSched5
namespace Go.Proofs.Ytapgcbjlgekpeaa
open Go.ChangeShapes Go.WideShapes Go.ChangeAt Go.RowKit

structure Ky where
  hi : Nat
  lo : Nat
deriving Inhabited, DecidableEq
def Ky.get (a : Ky) : Nat → Nat
  | 0 => a.hi
  | _ => a.lo
structure Ky.In (a : Ky) : Prop where
  hi : a.hi < 18446744073709551616
  lo : a.lo < 18446744073709551616
def Kys (w : World) (p : Option Addr) (l : List Ky) : Prop := Sl w p l.length 2 (fun j => .int .u64 (((l[j / 2]?.getD default).get (j % 2) : Nat)))
theorem Kys.below {w w' : World} {p : Option Addr} {l : List Ky} (h : Kys w p l) (hb : Below w.heap.size w w') : Kys w' p l := Sl.below h hb
theorem Kys.cells {w : World} {p : Option Addr} {l : List Ky} (h : Kys w p l) (k : Nat) (hk : k < l.length) :
    ∃ b off, p = some ⟨b, off, none⟩ ∧ b < w.heap.size ∧ w.cell? ⟨b, off + k * 2, none⟩ = some (.int .u64 ((l[k]?.getD default).hi : Nat)) ∧ w.cell? ⟨b, off + k * 2 + 1, none⟩ = some (.int .u64 ((l[k]?.getD default).lo : Nat)) := by
  obtain ⟨b, off, hp, hb, hc⟩ := Sl.pos h (by omega)
  have key : ∀ i, i < 2 → w.cell? ⟨b, off + k * 2 + i, none⟩ = some (.int .u64 ((l[k]?.getD default).get i : Nat)) := by
    intro i hi
    have := hc (k * 2 + i) (by omega)
    rw [← Nat.add_assoc, show (k * 2 + i) / 2 = k by omega, show (k * 2 + i) % 2 = i by omega] at this
    exact this
  exact ⟨b, off, hp, hb, key 0 (by omega), key 1 (by omega)⟩
theorem Kys.at {w W : World} {b off : Nat} {l : List Ky} (h : Kys w (some ⟨b, off, none⟩) l) (k : Nat) (hk : k < l.length) (hb : Below w.heap.size w W) :
    W.cell? ⟨b, off + k * 2, none⟩ = some (.int .u64 ((l[k]?.getD default).hi : Nat)) ∧ W.cell? ⟨b, off + k * 2 + 1, none⟩ = some (.int .u64 ((l[k]?.getD default).lo : Nat)) := by
  obtain ⟨b', off', e, _, c0, c1⟩ := (h.below hb).cells k hk
  cases e
  exact ⟨c0, c1⟩
def kyVals : List Ky → List Value
  | [] => []
  | a :: l => .int .u64 (a.hi : Nat) :: .int .u64 (a.lo : Nat) :: kyVals l
theorem kyVals_append : ∀ l m : List Ky, kyVals (l ++ m) = kyVals l ++ kyVals m
  | [], _ => rfl
  | a :: l, m => by simp [kyVals, kyVals_append l m]
theorem kyVals_len : ∀ l : List Ky, (kyVals l).length = l.length * 2
  | [] => rfl
  | a :: l => by simp [kyVals, kyVals_len l]; omega
theorem kyVals_get : ∀ (l : List Ky) (j : Nat), j < l.length * 2 → (kyVals l)[j]? = some (.int .u64 ((l[j / 2]?.getD default).get (j % 2) : Nat))
  | [], j, h => by simp at h
  | a :: l, j, h => by
    match j, h with
    | 0, _ => rfl
    | 1, _ => rfl
    | j + 2, h =>
      have ih := kyVals_get l j (by simp at h; omega)
      rw [show (j + 2) / 2 = j / 2 + 1 by omega, show (j + 2) % 2 = j % 2 by omega]
      simpa [kyVals] using ih
theorem kys_of_owns {w : World} {B : Nat} {v : Value} {l : List Ky} (h : Owns w B 2 v l.length (kyVals l)) : ∃ p cap, v = .slice p l.length cap ∧ l.length ≤ cap ∧ Kys w p l := by
  obtain ⟨p, cap, hv, hc, _, hs, _⟩ := h.sl
  refine ⟨p, cap, hv, hc, ?_⟩
  rcases hs with hs | ⟨b, off, hp, hb, hcell⟩
  · exact .inl hs
  · refine .inr ⟨b, off, hp, hb, fun j hj => ?_⟩
    rw [hcell j hj]
    show some ((kyVals l)[j]?.getD undef) = some (.int .u64 ((l[j / 2]?.getD default).get (j % 2) : Nat))
    rw [kyVals_get l j hj]
    rfl
theorem kyInfo : (Try.prog.info? 159).map (fun i => (i.zero, i.size, i.bytes)) = some (some (.agg #[.int .u64 0, .int .u64 0]), 2, 16) := by kernel_rfl
/-- A slice that came in, as keys. -/
theorem kys_of_rows {w : World} {p : Option Addr} (l : List (List Int)) (h : Go.Proofs.Ytapgcbjlgekpeaa.Rows .u64 2 w p l) (hr : ∀ r ∈ l, r.length = 2 ∧ ∀ a ∈ r, (Lit.int .u64 a).wf = true) : ∃ m : List Ky, m.length = l.length ∧ Kys w p m ∧ ∀ a ∈ m, a.In := by
  refine ⟨l.map fun r => ⟨(r[0]?.getD 0).toNat, (r[1]?.getD 0).toNat⟩, by simp, ?_, fun a ha => ?_⟩
  · unfold Go.Proofs.Ytapgcbjlgekpeaa.Rows at h
    unfold Kys
    rw [List.length_map]
    rcases h with h | ⟨b, off, hp, hb, hc⟩
    · exact .inl h
    · refine .inr ⟨b, off, hp, hb, fun j hj => ?_⟩
      rw [hc j hj]
      have hq : j / 2 < l.length := by omega
      have hm : j % 2 < 2 := Nat.mod_lt _ (by omega)
      obtain ⟨h2, hw⟩ := hr l[j / 2] (by simp)
      simp only [List.getElem?_map, List.getElem?_eq_getElem hq, Option.map_some, Option.getD_some]
      generalize j % 2 = i at hm
      generalize l[j / 2] = r at h2 hw
      match r, h2 with
      | [x, y], _ =>
        have hx := U64.of_wf (hw x (by simp))
        have hy := U64.of_wf (hw y (by simp))
        unfold U64 at hx hy
        match i, hm with
        | 0, _ => exact congrArg (fun z => some (Value.int .u64 z)) (by show x = ((x.toNat : Nat) : Int); omega)
        | 1, _ => exact congrArg (fun z => some (Value.int .u64 z)) (by show y = ((y.toNat : Nat) : Int); omega)
  · obtain ⟨r, hr2, rfl⟩ := List.mem_map.1 ha
    obtain ⟨h2, hw⟩ := hr r hr2
    match r, h2 with
    | [x, y], _ =>
      have hx := U64.of_wf (hw x (by simp))
      have hy := U64.of_wf (hw y (by simp))
      unfold U64 at hx hy
      exact ⟨by show x.toNat < _; omega, by show y.toNat < _; omega⟩

/-- The keys of a stripe. -/
def Ky.part (n : Int) (j : Int) (l : List Ky) : List Ky := l.filter fun k => decide (Route.of k.hi k.lo n = j)
theorem Ky.part_next (n j : Int) (l : List Ky) (k : Nat) (h : k < l.length) : Ky.part n j (l.take (k + 1)) = Ky.part n j (l.take k) ++ (if Route.of (l[k]?.getD default).hi (l[k]?.getD default).lo n = j then [l[k]?.getD default] else []) := by
  have e : l[k]?.getD default = l[k] := by rw [List.getElem?_eq_getElem h]; rfl
  unfold Ky.part
  rw [e, List.take_succ_eq_append_getElem h, List.filter_append]
  congr 1
  by_cases hc : Route.of l[k].hi l[k].lo n = j
  · rw [if_pos hc]; simp [hc]
  · rw [if_neg hc]; simp [hc]

set_option maxHeartbeats 1000000 in
set_option maxRecDepth 100000 in
theorem ref05_part (p : Option Addr) (N c : Nat) (L : List Ky) (hn : L.length = N) (hIn : ∀ a ∈ L, a.In) (n : Int) (hI : I64 n) (at_ : Int) (hb : N ≤ 100000) (w : World) (hs : Kys w p L) :
    Calls Try.prog 30 #[.slice p N c, .int .i64 n, .int .i64 at_] w (RetOwns w 2 (Ky.part n at_ L).length (kyVals (Ky.part n at_ L))) := by
  have HS := Lib.hid hs
  have HG : Hid (Ky.part n at_ (L.take N) = Ky.part n at_ L) := by show _ = _; rw [← hn, List.take_length]
  have HNX := Lib.hid (Ky.part_next n at_ L)
  have HZ : Hid (Ky.part n at_ (L.take 0) = []) := rfl
  have HLE : Hid (∀ k, (Ky.part n at_ (L.take k)).length ≤ k) := fun k => Nat.le_trans (List.length_filter_le _ _) (by rw [List.length_take]; omega)
  have HIN := Lib.hid hIn
  have HO : Hid (∀ (hi lo : Nat), hi < 18446744073709551616 → lo < 18446744073709551616 → ∀ W : World, Calls Try.prog 95 #[.agg #[.int .u64 hi, .int .u64 lo], .int .i64 n] W fun e w' => e = .returned (.int .i64 (Route.of hi lo n)) ∧ Below W.heap.size W w') := fun hi lo h1 h2 W => ref_route_of hi lo h1 h2 n hI W
  obtain ⟨r, hr⟩ : ∃ r, r = Ky.part n at_ L := ⟨_, rfl⟩
  rw [← hr] at HG ⊢
  obtain ⟨f, ef⟩ : ∃ f, f = fun k => Ky.part n at_ (L.take k) := ⟨_, rfl⟩
  have HF : Hid (∀ k, Ky.part n at_ (L.take k) = f k) := fun k => by rw [ef]
  simp only [HF.out] at HG HNX HZ HLE
  have HN := Lib.hid hn
  clear hs hn hr ef hIn hI HF
  go_enter Try.func30, Try.ntmps30
  go_wp2
  go_loopw [7, 8] (fun v i wr => ∃ k : Nat, k ≤ N ∧ i = .int .i64 k ∧ Owns wr w.heap.size 2 v (f k).length (kyVals (f k)) ∧ Below w.heap.size w wr) (fun _ i _ => N - (intOf i).toNat)
  case atStart => exact ⟨0, by omega, rfl, by rw [HZ.out]; exact owns_nil _ _ _, Below.refl _ _⟩
  case round =>
    obtain ⟨k, hk, rfl, hO, hB⟩ := hrel
    by_cases hlt : k < N
    · have hkl : k < L.length := by have := HN.out; omega
      obtain ⟨b, off, rfl, hbw, _⟩ := HS.out.cells k hkl
      obtain ⟨c0, c1⟩ := HS.out.at k hkl hB
      have hsn := HNX.out k hkl
      have hle := HLE.out k
      have hai : (L[k]?.getD default).In := by rw [List.getElem?_eq_getElem hkl]; exact HIN.out _ (by simp)
      obtain ⟨a, ha⟩ : ∃ a, a = L[k]?.getD default := ⟨_, rfl⟩
      rw [← ha] at c0 c1 hsn hai
      have P := Lib.hid (HO.out a.hi a.lo hai.hi hai.lo)
      obtain ⟨xs, hxs⟩ : ∃ s, s = f k := ⟨_, rfl⟩
      rw [← hxs] at hsn hle hO
      have HO1 := Lib.hid hO
      have HB := Lib.hid hB
      have CC : Hid (∀ W, Below w.heap.size w W → W.cell? ⟨b, off + k * 2, none⟩ = some (.int .u64 (a.hi : Nat)) ∧ W.cell? ⟨b, off + k * 2 + 1, none⟩ = some (.int .u64 (a.lo : Nat))) := fun W hW => by rw [ha]; exact HS.out.at k hkl hW
      have hkn : (k : Int) < N := by omega
      have hk0 : (0 : Int) ≤ k := by omega
      clear ha hxs hkl hO hB hai
      obtain ⟨o, ho⟩ : ∃ o, o = Route.of a.hi a.lo n := ⟨_, rfl⟩
      rw [← ho] at P hsn
      clear ho
      go_wp2_with fail
      (with_reducible refine (P.out _).mono ?_)
      rintro e w2 ⟨rfl, hb2⟩
      have HB2 := Lib.hid (HB.out.trans (hb2.mono HB.out.size))
      have HO2 := Lib.hid (HO1.out.below hb2)
      clear hb2 c0 c1 P HO1 HB
      obtain ⟨c0, c1⟩ := CC.out w2 HB2.out
      have hB := HB2.out
      by_cases hin : o = at_
      · subst hin
        rw [if_pos rfl] at hsn
        have HSN := Lib.hid hsn
        clear hsn CC
        go_wp2_with (at_builtin; refine wpList_append_new rfl _ _ 53 rfl _ _ 159 rfl _ 159 (.agg #[.int .u64 0, .int .u64 0]) 2 16 Try.underlying53 kyInfo rfl (by decide) _ _ _ rfl (HO2.out) (by first | rfl | (rw [World.size_alloc]; rfl)) rfl (by first | (simp [Value.oneCell']; done) | (intro u hu; simp at hu; subst hu; rfl)) (by unfold maxLen; omega) (by omega) (Below.size (by assumption)) ?_; intro u1 x1 ha1 hg1 hc1)
        exact ⟨⟨k + 1, by omega, by go_num, by rw [HSN.out, kyVals_append, List.length_append]; exact ha1, HB2.out.trans hc1⟩, by simp [intOf]; omega⟩
      · rw [if_neg hin, List.append_nil] at hsn
        have HSN := Lib.hid hsn
        have hne : (o == at_) = false := beq_eq_false_iff_ne.2 hin
        clear hsn CC hin
        go_wp2
        exact ⟨⟨k + 1, by omega, by go_num, by rw [HSN.out]; exact HO2.out, HB2.out⟩, by simp [intOf]; omega⟩
    · obtain rfl : k = N := by omega
      rw [HG.out] at hO
      go_wp2
      go_ret
      exact ⟨_, rfl, hO, hB⟩

set_option maxHeartbeats 1000000 in
set_option maxRecDepth 100000 in
/-- Two lists that are one: the same. -/
theorem ref03_alike (p q : Option Addr) (n c d : Nat) (l : List Ky) (hn : l.length = n) (hb : n ≤ 9223372036854775807) (w : World) (hs : Kys w p l) (ht : Kys w q l) :
    Calls Try.prog 29 #[.slice p n c, .slice q n d] w fun e w' => e = .returned (.bool true) ∧ Below w.heap.size w w' := by
  have HA := Lib.hid hs
  have HB := Lib.hid ht
  have HN := Lib.hid hn
  clear hs ht hn
  go_enter Try.func29, Try.ntmps29
  go_wp2
  go_loopw [5] (fun i wr => ∃ k : Nat, k ≤ n ∧ i = .int .i64 k ∧ Below w.heap.size w wr) (fun i _ => n - (intOf i).toNat)
  case atStart => exact ⟨0, by omega, rfl, Below.refl _ _⟩
  case round =>
    obtain ⟨k, hk, rfl, hBW⟩ := hrel
    have HBW := Lib.hid hBW
    clear hBW
    by_cases hlt : k < n
    · obtain ⟨b1, o1, rfl, hb1, g0, g1⟩ := HA.out.cells k (by have := HN.out; omega)
      obtain ⟨b2, o2, rfl, hb2, g2, g3⟩ := HB.out.cells k (by have := HN.out; omega)
      rw [← HBW.out.cell (p := ⟨b1, _, none⟩) hb1] at g0 g1
      rw [← HBW.out.cell (p := ⟨b2, _, none⟩) hb2] at g2 g3
      obtain ⟨x, ex⟩ : ∃ x, x = l[k]?.getD default := ⟨_, rfl⟩
      rw [← ex] at g0 g1 g2 g3
      clear ex
      have i1 : (0 : Int) ≤ k := by omega
      have i2 : (k : Int) < n := by omega
      go_wp2
      go_quiet (fail)
      go_wp2
      exact ⟨⟨k + 1, by omega, by go_num, below_drewN HBW.out nq⟩, by simp [intOf]; omega⟩
    · obtain rfl : k = n := by omega
      go_wp2
      go_ret
      exact ⟨rfl, HBW.out⟩
end Go.Proofs.Ytapgcbjlgekpeaa
