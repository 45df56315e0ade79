/- Layer 8: what the laws share. -/
import Derived.Test.YtapgcbjlgekpeaaJSer14
import Derived.Test.YtapgcbjlgekpeaaJSerO
namespace Go.Proofs.Ytapgcbjlgekpeaa
open Go.ChangeShapes Go.WideShapes Go.ChangeAt Go.RowKit

theorem Ser.trim_filter (cut : Int) : ∀ {L : List Samp}, Ser.Sorted L → L.filter (fun a => decide (cut ≤ a.tick)) = L.drop (Ser.place L cut)
  | [], _ => rfl
  | a :: L, h => by
    obtain ⟨h1, h2⟩ := Ser.sorted_tail h
    by_cases ha : a.tick < cut
    · have e : Ser.place (a :: L) cut = Ser.place L cut + 1 := by unfold Ser.place; rw [List.takeWhile_cons, if_pos (decide_eq_true ha)]; rfl
      rw [e, List.filter_cons, if_neg (by simpa using ha), Ser.trim_filter cut h1]
      rfl
    · have e : Ser.place (a :: L) cut = 0 := by unfold Ser.place; rw [List.takeWhile_cons, if_neg (by simpa using ha)]; rfl
      rw [e, List.filter_eq_self.2 (fun b hb => by
        rcases List.mem_cons.1 hb with rfl | hb
        · simp; omega
        · have := h2 b hb; simp; omega)]
      rfl
def Ser.cutk (cut : Int) (L : List Samp) (k : Nat) : List Samp := (L.take k).filter (fun a => decide (cut ≤ a.tick))
theorem Ser.cutk_next (cut : Int) (L : List Samp) (k : Nat) (h : k < L.length) : Ser.cutk cut L (k + 1) = Ser.cutk cut L k ++ (if cut ≤ (L[k]?.getD default).tick then [L[k]?.getD default] else []) := by
  unfold Ser.cutk
  rw [List.take_succ_eq_append_getElem h, List.filter_append, List.getElem?_eq_getElem h]
  show _ ++ List.filter _ [L[k]] = _ ++ (if cut ≤ L[k].tick then [L[k]] else [])
  by_cases hc : cut ≤ L[k].tick
  · rw [if_pos hc, List.filter_cons, if_pos (decide_eq_true hc)]; rfl
  · rw [if_neg hc, List.filter_cons, if_neg (by simpa using hc)]; rfl

set_option maxHeartbeats 1000000 in
set_option maxRecDepth 100000 in
theorem ref08_trim (p : Option Addr) (n c : Nat) (L : List Samp) (hn : L.length = n) (hsrt : Ser.Sorted L) (cut : Int) (hb : n ≤ 100000) (w : World) (hs : Samps w p L) :
    Calls Try.prog 84 #[.slice p n c, .int .i64 cut] w (RetOwns w 2 (L.drop (Ser.place L cut)).length (sampVals (L.drop (Ser.place L cut)))) := by
  have HS := Lib.hid hs
  have HG : Hid (Ser.cutk cut L n = L.drop (Ser.place L cut)) := by show _ = _; unfold Ser.cutk; rw [← hn, List.take_length]; exact Ser.trim_filter cut hsrt
  have HNX := Lib.hid (Ser.cutk_next cut L)
  have HZ : Hid (Ser.cutk cut L 0 = []) := rfl
  have HLE : Hid (∀ k, (Ser.cutk cut L k).length ≤ k) := fun k => Nat.le_trans (List.length_filter_le _ _) (by rw [List.length_take]; omega)
  obtain ⟨r, hr⟩ : ∃ r, r = L.drop (Ser.place L cut) := ⟨_, rfl⟩
  rw [← hr] at HG ⊢
  obtain ⟨f, ef⟩ : ∃ f, f = Ser.cutk cut L := ⟨_, rfl⟩
  rw [← ef] at HG HNX HZ HLE
  have HN := Lib.hid hn
  clear hs hn hr ef hsrt
  go_enter Try.func84, Try.ntmps84
  go_wp2
  go_loopw [5, 6] (fun v i wr => ∃ k : Nat, k ≤ n ∧ i = .int .i64 k ∧ Owns wr w.heap.size 2 v (f k).length (sampVals (f k)) ∧ Below w.heap.size w wr) (fun _ i _ => n - (intOf i).toNat)
  case atStart => exact ⟨0, by omega, rfl, by rw [HZ.out]; exact owns_nil _ _ _, Below.refl _ _⟩
  case round =>
    obtain ⟨k, hk, rfl, hO, hB⟩ := hrel
    by_cases hlt : k < n
    · have hkl : k < L.length := by have := HN.out; omega
      obtain ⟨b, off, rfl, hbw, _⟩ := HS.out.cells k hkl
      obtain ⟨c0, c1⟩ := HS.out.cc k hkl wr hB
      have hsn := HNX.out k hkl
      have hle := HLE.out k
      obtain ⟨a, ha⟩ : ∃ a, a = L[k]?.getD default := ⟨_, rfl⟩
      rw [← ha] at c0 c1 hsn
      obtain ⟨xs, hxs⟩ : ∃ s, s = f k := ⟨_, rfl⟩
      rw [← hxs] at hsn hle hO
      have HO := Lib.hid hO
      have hBW := hB
      have HB := Lib.hid hB
      have hkn : (k : Int) < n := by omega
      have hk0 : (0 : Int) ≤ k := by omega
      clear ha hxs hkl hO hB
      by_cases hin : cut ≤ a.tick
      · rw [if_pos hin] at hsn
        have HSN := Lib.hid hsn
        clear hsn
        go_wp2_with (at_builtin; refine wpList_append_new rfl _ _ 37 rfl _ _ 23 rfl _ 23 (.agg #[.int .i64 0, .int .i64 0]) 2 16 Try.underlying37 sampInfo rfl (by decide) _ _ _ rfl (HO.out) (by first | rfl | (rw [World.size_alloc]; rfl)) rfl (by first | (simp [Value.oneCell']; done) | (intro u hu; simp at hu; subst hu; rfl)) (by unfold maxLen; omega) (by omega) (Below.size (by assumption)) ?_; intro u1 x1 ha1 hg1 hc1)
        exact ⟨⟨k + 1, by omega, by go_num, by rw [HSN.out, sampVals_append, List.length_append]; exact ha1, HB.out.trans hc1⟩, by simp [intOf]; omega⟩
      · rw [if_neg hin, List.append_nil] at hsn
        have HSN := Lib.hid hsn
        clear hsn
        go_wp2
        exact ⟨⟨k + 1, by omega, by go_num, by rw [HSN.out]; exact HO.out, HB.out⟩, by simp [intOf]; omega⟩
    · obtain rfl : k = n := by omega
      rw [HG.out] at hO
      go_wp2
      go_ret
      exact ⟨_, rfl, hO, hB⟩

theorem ser_list2 {w : World} {B s : Nat} {v : Value} {room n : Nat} {L : List Samp} (h : SerAt w B s v room L) (hn : L.length = n) :
    Calls Try.prog 136 #[.pointer (some ⟨s, 0, none⟩)] w fun e w' => ∃ p c, e = .returned (.slice p n c) ∧ Samps w' p L ∧ Below w.heap.size w w' := by
  subst hn
  exact (ser_list h).mono fun e w' ⟨p, c, h1, _, h2, h3⟩ => ⟨p, c, h1, h2, h3⟩

end Go.Proofs.Ytapgcbjlgekpeaa
