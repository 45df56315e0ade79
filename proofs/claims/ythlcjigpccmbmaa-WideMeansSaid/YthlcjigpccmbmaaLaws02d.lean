/- Layer 2: WideMeans, walked. -/
import Derived.Test.YthlcjigpccmbmaaLaws02c
namespace Go.Proofs.Ythlcjigpccmbmaa
open Go.ChangeShapes Go.WideShapes Go.ChangeAt Go.RowKit

theorem Bits.total_ge (l : List Int) (lo : Int) (h0 : 0 ≤ lo) (h : ∀ j, j < l.length → lo ≤ l[j]?.getD 0) : ∀ k, k ≤ l.length → lo * k ≤ Bits.total (l.take k) := by
  intro k
  induction k with
  | zero => intro _; simp
  | succ k ih =>
    intro hk
    have h1 := ih (by omega)
    have h2 := h k (by omega)
    rw [Bits.total_step l k (by omega)]
    have e : lo * ((k + 1 : Nat) : Int) = lo * k + lo := by rw [Int.natCast_add, Int.mul_add]; simp
    omega
theorem Bits.total_hi (l : List Int) (hi : Int) (h0 : 0 ≤ hi) (h : ∀ j, j < l.length → l[j]?.getD 0 ≤ hi) : ∀ k, k ≤ l.length → (Bits.total (l.take k) : Int) ≤ hi * k := by
  intro k
  induction k with
  | zero => intro _; simp [Bits.total]
  | succ k ih =>
    intro hk
    have h1 := ih (by omega)
    have h2 := h k (by omega)
    rw [Bits.total_step l k (by omega)]
    have e : hi * ((k + 1 : Nat) : Int) = hi * k + hi := by rw [Int.natCast_add, Int.mul_add]; simp
    omega

/-- A mean, rounded up. -/
theorem Wide.mean_is (l : List Int) (hl : ∀ n ∈ l, I64 n) (hp : 0 < l.length) : ∃ q : Nat, Wide.up (Bits.total l) l.length = q ∧ q ≤ 9223372036854775807 ∧ Bits.up (Bits.total l) l.length q = true ∧
    (∀ lo hi : Int, 0 ≤ lo → (∀ j, j < l.length → lo ≤ l[j]?.getD 0 ∧ l[j]?.getD 0 ≤ hi) → lo ≤ q ∧ (q : Int) ≤ hi) := by
  obtain ⟨V, hV⟩ : ∃ V, V = Bits.total l / l.length + (if Bits.total l % l.length = 0 then 0 else 1) := ⟨_, rfl⟩
  obtain ⟨h1, h2⟩ := Bits.ceil (Bits.total l) l.length hp V hV
  have hle : ∀ m : Nat, Bits.total l ≤ m * l.length → V ≤ m := fun m hm => by
    rcases h2 with h2 | h2
    · omega
    · have : (V - 1) * l.length < m * l.length := Nat.lt_of_lt_of_le h2 hm
      have := Nat.lt_of_mul_lt_mul_right this
      omega
  have ht := Bits.total_le l hl l.length (Nat.le_refl _)
  rw [List.take_length, Nat.mul_comm] at ht
  have hm := hle 9223372036854775807 ht
  refine ⟨V, ?_, hm, decide_eq_true ⟨h1, h2⟩, fun lo hi h0 hj => ?_⟩
  · unfold Wide.up
    rw [if_neg (by omega), ← hV]
    unfold Bits.small
    rw [if_pos (by omega)]
  · have a := Bits.total_ge l lo h0 (fun j h => (hj j h).1) l.length (Nat.le_refl _)
    have h00 := hj 0 hp
    have b := Bits.total_hi l hi (by omega) (fun j h => (hj j h).2) l.length (Nat.le_refl _)
    rw [List.take_length] at a b
    obtain ⟨L, rfl⟩ : ∃ L : Nat, lo = L := ⟨lo.toNat, by omega⟩
    obtain ⟨H, rfl⟩ : ∃ H : Nat, hi = H := ⟨hi.toNat, by omega⟩
    have a' : L * l.length ≤ Bits.total l := by exact_mod_cast a
    have b' : Bits.total l ≤ H * l.length := by exact_mod_cast b
    have c := hle H b'
    have d : L * l.length ≤ V * l.length := Nat.le_trans a' h1
    have := Nat.le_of_mul_le_mul_right d hp
    omega

set_option maxHeartbeats 1000000 in
set_option maxRecDepth 100000 in
theorem wideMeans_walk (p : Option Addr) (cap : Nat) (l : List Int) (w : World) (hs : Ints .i64 w p l) (hl : ∀ n ∈ l, I64 n) (hb : l.length ≤ 9223372036854775807) :
    Calls Try.prog 11 #[.slice p l.length cap] w fun e w' => e = .returned (.bool true) ∧ Below w.heap.size w w' := by
  have HS : Hid (∀ w', Below w.heap.size w w' → Ints .i64 w' p l) := fun w' h => Sl.below hs h
  have HM : Hid (∀ w', Below w.heap.size w w' → Calls Try.prog 46 #[.slice p l.length cap] w' fun e w'' => e = .returned (.int .i64 (Wide.up (Bits.total l) l.length)) ∧ Below w'.heap.size w' w'') := fun w' h => wide_mean p cap l w' (Sl.below hs h) hl hb
  have HT : Hid (∀ w', Below w.heap.size w w' → Calls Try.prog 47 #[.slice p l.length cap] w' fun e w'' => e = .returned (.agg (cells2 (Bits.total l))) ∧ Below w'.heap.size w' w'') := fun w' h => wide_total p cap l w' (Sl.below hs h) hl hb
  have HR : Hid (∀ w', Below w.heap.size w w' → Calls Try.prog 48 #[.slice p l.length cap] w' fun e w'' => e = .returned (.agg (Bits.num (Bits.total l))) ∧ Below w'.heap.size w' w'') := fun w' h => ref_total p cap l w' (Sl.below hs h) hl hb
  have hlt := Bits.total_lt l hl hb
  have HI : Hid (∀ w, Calls Try.prog 33 #[.agg (cells2 (Bits.total l)), .agg (Bits.num (Bits.total l))] w fun e w' => e = .returned (.bool true) ∧ Below w.heap.size w w') := law_is (Bits.total l) (by omega)
  have HL := Lib.hid hl
  by_cases h100 : 100 < l.length
  · clear HS HM HT HR HI HL hs hl hlt
    go_enter Try.func11, Try.ntmps11
    go_wp2_with fail
    (with_reducible refine (awake02 _).mono ?_)
    rintro e w1 ⟨rfl, hb1⟩
    go_wp2
    go_ret
    exact ⟨rfl, hb1⟩
  · by_cases h0 : l.length = 0
    · obtain rfl : l = [] := List.eq_nil_of_length_eq_zero h0
      have he : Wide.up (Bits.total []) ([] : List Int).length = 0 := by rfl
      rw [he] at HM
      obtain ⟨x, hx⟩ : ∃ x, x = Bits.total [] := ⟨_, rfl⟩
      rw [← hx] at HT HR HI
      have e0 : ([] : List Int).length = 0 := rfl
      rw [e0] at HM HT HR ⊢
      clear hs hl hlt hx HL HS hb h100 h0 he e0
      go_enter Try.func11, Try.ntmps11
      go_wp2_with fail
      (with_reducible refine (awake02 _).mono ?_)
      rintro e w1 ⟨rfl, hb1⟩
      have B1 := Lib.hid hb1
      clear hb1
      go_wp2_with fail
      (with_reducible refine (HM.out _ B1.out).mono ?_)
      rintro e w2 ⟨rfl, hb2⟩
      have B2 := Lib.hid (B1.out.trans (hb2.mono B1.out.size))
      clear hb2
      go_wp2_with fail
      (with_reducible refine (HT.out _ B2.out).mono ?_)
      rintro e w3 ⟨rfl, hb3⟩
      have B3 := Lib.hid (B2.out.trans (hb3.mono B2.out.size))
      clear hb3
      go_wp2_with fail
      (with_reducible refine (HR.out _ B3.out).mono ?_)
      rintro e w4 ⟨rfl, hb4⟩
      have B4 := Lib.hid (B3.out.trans (hb4.mono B3.out.size))
      clear hb4
      go_wp2_with fail
      (with_reducible refine (HI.out _).mono ?_)
      rintro e w5 ⟨rfl, hb5⟩
      have B5 := Lib.hid (B4.out.trans (hb5.mono B4.out.size))
      clear hb5
      go_wp2
      go_ret
      exact ⟨rfl, B5.out⟩
    · have hp : 0 < l.length := by omega
      obtain ⟨q, eq, lq, hup, hbd⟩ := Wide.mean_is l hl hp
      rw [eq] at HM
      have hru := ref_up (Bits.total l) l.length q hlt (by omega) (by omega)
      rw [hup] at hru
      obtain ⟨b, off, rfl, hblt, hcell⟩ := hs.pos hp
      have HC : Hid (∀ w', Below w.heap.size w w' → ∀ j, j < l.length → w'.cell? ⟨b, off + j, none⟩ = some (.int .i64 (l[j]?.getD 0))) := fun w' h j hj => by
        rw [h.cell (p := ⟨b, off + j, none⟩) hblt]; exact hcell j (by omega)
      have HJ : Hid (∀ j, j < l.length → I64 (l[j]?.getD 0)) := fun j hj => hl _ (by rw [List.getElem?_eq_getElem hj]; exact List.getElem_mem _)
      obtain ⟨z, hz⟩ : ∃ z : Int, z = q := ⟨_, rfl⟩
      have HBD : Hid (∀ lo hi : Int, 0 ≤ lo → (∀ j, j < l.length → lo ≤ l[j]?.getD 0 ∧ l[j]?.getD 0 ≤ hi) → lo ≤ z ∧ z ≤ hi) := by rw [hz]; exact hbd
      rw [← hz] at HM hru
      have z0 : 0 ≤ z := by omega
      have z1 : z ≤ 9223372036854775807 := by omega
      obtain ⟨x, hx⟩ : ∃ x, x = Bits.total l := ⟨_, rfl⟩
      rw [← hx] at HT HR HI hru
      obtain ⟨n, hn⟩ : ∃ n, n = l.length := ⟨_, rfl⟩
      rw [← hn] at HM HT HR hru HC HJ HBD hp h100 ⊢
      have HU := Lib.hid hru
      clear hs hl hlt hx hn HL HS hb h0 eq lq hup hbd hru hcell hblt hz
      have hn100 : n ≤ 100 := by omega
      clear h100
      have hd1 : decide (100 < (n : Int)) = false := by simp; omega
      have hd2 : ((n : Int) == 0) = false := by simp; omega
      go_enter Try.func11, Try.ntmps11
      go_wp2_with fail
      (with_reducible refine (awake02 _).mono ?_)
      rintro e w1 ⟨rfl, hb1⟩
      have B1 := Lib.hid hb1
      clear hb1
      go_wp2_with fail
      (with_reducible refine (HM.out _ B1.out).mono ?_)
      rintro e w2 ⟨rfl, hb2⟩
      have B2 := Lib.hid (B1.out.trans (hb2.mono B1.out.size))
      clear hb2
      go_wp2_with fail
      (with_reducible refine (HT.out _ B2.out).mono ?_)
      rintro e w3 ⟨rfl, hb3⟩
      have B3 := Lib.hid (B2.out.trans (hb3.mono B2.out.size))
      clear hb3
      go_wp2_with fail
      (with_reducible refine (HR.out _ B3.out).mono ?_)
      rintro e w4 ⟨rfl, hb4⟩
      have B4 := Lib.hid (B3.out.trans (hb4.mono B3.out.size))
      clear hb4
      go_wp2_with fail
      (with_reducible refine (HI.out _).mono ?_)
      rintro e w5 ⟨rfl, hb5⟩
      have B5 := Lib.hid (B4.out.trans (hb5.mono B4.out.size))
      clear hb5 B1 B2 B3 B4 HM HT HI
      go_wp2_with fail
      have hst : Stab (fun w' => Below w.heap.size w w') := stab_below (Nat.le_refl _)
      have HC0 : Hid (∀ w', Below w.heap.size w w' → w'.cell? ⟨b, off, none⟩ = some (.int .i64 (l[0]?.getD 0))) := fun w' h => by have := HC.out w' h 0 hp; rw [Nat.add_zero] at this; exact this
      refine wp_region_E mixed [] hst (below_drew B5.out) ?_
      refine wpAnyE_take 0 rfl (by kernel_rfl) (by kernel_rfl) (by kernel_rfl) (fun _ _ _ h => h) hst (EffB.pure rfl (fun _ => rfl)) (.inr (EffB.pure rfl (fun _ => rfl))) ?_
      simp only [act_norm]
      refine wpAnyE_take 1 (v := .pointer (some ⟨b, off, none⟩)) rfl (by kernel_rfl) (by kernel_rfl) (by kernel_rfl) (fun _ _ _ h => h) hst (EffB.run rfl rfl (fun wd hS => ?_)) (.inr (EffB.run rfl rfl (fun wd hS => ?_))) ?_
      · (go_wp2; exact ⟨rfl, Below.refl _ _⟩)
      · (go_wp2; exact ⟨rfl, Below.refl _ _⟩)
      simp only [act_norm]
      refine wpAnyE_take 2 (v := .int .i64 (l[0]?.getD 0)) rfl (by kernel_rfl) (by kernel_rfl) (by kernel_rfl) (fun _ _ _ h => h) hst (EffB.run rfl rfl (fun wd hS => ?_)) (.inl (by kernel_rfl)) ?_
      · have hcd := HC0.out wd hS; go_wp2; exact ⟨rfl, Below.refl _ _⟩
      simp only [act_norm]
      refine wpAnyE_take 3 rfl (by kernel_rfl) (by kernel_rfl) (by kernel_rfl) (fun _ _ _ h => h) hst (EffB.pure rfl (fun _ => rfl)) (.inr (EffB.pure rfl (fun _ => rfl))) ?_
      simp only [act_norm]
      refine wpAnyE_take 4 (v := .pointer (some ⟨b, off, none⟩)) rfl (by kernel_rfl) (by kernel_rfl) (by kernel_rfl) (fun _ _ _ h => h) hst (EffB.run rfl rfl (fun wd hS => ?_)) (.inr (EffB.run rfl rfl (fun wd hS => ?_))) ?_
      · (go_wp2; exact ⟨rfl, Below.refl _ _⟩)
      · (go_wp2; exact ⟨rfl, Below.refl _ _⟩)
      simp only [act_norm]
      refine wpAnyE_take 5 (v := .int .i64 (l[0]?.getD 0)) rfl (by kernel_rfl) (by kernel_rfl) (by kernel_rfl) (fun _ _ _ h => h) hst (EffB.run rfl rfl (fun wd hS => ?_)) (.inl (by kernel_rfl)) ?_
      · have hcd := HC0.out wd hS; go_wp2; exact ⟨rfl, Below.refl _ _⟩
      simp only [act_norm]
      refine wpAnyE_take 6 rfl (by kernel_rfl) (by kernel_rfl) (by kernel_rfl) (fun _ _ _ h => h) hst (EffB.pure rfl (fun _ => rfl)) (.inr (EffB.pure rfl (fun _ => rfl))) ?_
      simp only [act_norm]
      refine wpAnyE_take 7 rfl (by kernel_rfl) (by kernel_rfl) (by kernel_rfl) (fun _ _ _ h => h) hst (EffB.pure rfl (fun _ => rfl)) (.inr (EffB.pure rfl (fun _ => rfl))) ?_
      simp only [act_norm]
      refine wpAnyE_done (by kernel_rfl) (fun wd hS => ?_) _
      have HW : Hid (Below w.heap.size w wd) := hS
      have HY := Lib.hid (HJ.out 0 hp)
      obtain ⟨y, hy⟩ : ∃ y, y = l[0]?.getD 0 := ⟨_, rfl⟩
      rw [← hy] at HY ⊢
      clear hS B5 HC0 hst hy
      go_wp2_with fail
      go_loop [4, 5, 34] (fun lo hi i => ∃ (k : Nat) (lo' hi' : Int), k ≤ n ∧ i = .int .i64 k ∧ lo = .int .i64 lo' ∧ hi = .int .i64 hi' ∧ I64 lo' ∧ I64 hi' ∧ ∀ j, j < k → lo' ≤ l[j]?.getD 0 ∧ l[j]?.getD 0 ≤ hi') (fun _ _ i => n - (intOf i).toNat)
      case atStart => exact ⟨0, y, y, by omega, rfl, rfl, rfl, HY.out, HY.out, fun j hj => by omega⟩
      case round =>
        obtain ⟨k, lo, hi, hk, rfl, rfl, rfl, hlo, hhi, hj⟩ := hrel
        by_cases hlt : k < n
        · have hc := HC.out wd HW.out k hlt
          have hyk := HJ.out k hlt
          obtain ⟨v, hv⟩ : ∃ v, v = l[k]?.getD 0 := ⟨_, rfl⟩
          have HV := Lib.hid hv
          rw [← hv] at hc hyk
          have HJ2 := Lib.hid hj
          have HLO := Lib.hid hlo
          have HHI := Lib.hid hhi
          have HYK := Lib.hid hyk
          clear hv hj hlo hhi hyk
          go_wp2
          go_round
          case rel =>
            refine ⟨k + 1, (if v < lo then v else lo), (if hi < v then v else hi), by omega, by go_num, rfl, rfl, ?_, ?_, fun j hj => ?_⟩
            · split
              · exact HYK.out
              · exact HLO.out
            · split
              · exact HYK.out
              · exact HHI.out
            · by_cases hjk : j = k
              · rw [hjk, ← HV.out]
                constructor <;> split <;> omega
              · obtain ⟨g1, g2⟩ := HJ2.out j (by omega)
                constructor <;> split <;> omega
          case measure => simp [intOf]; omega
        · obtain rfl : k = n := by omega
          have HB2 := Lib.hid (fun h0 => HBD.out lo hi h0 hj)
          clear hj HBD
          go_wp2_with fail
          (with_reducible refine (HR.out _ HW.out).mono ?_)
          rintro e w6 ⟨rfl, hb6⟩
          have B6 := Lib.hid (HW.out.trans (hb6.mono HW.out.size))
          clear hb6
          go_wp2_with fail
          (with_reducible refine (HU.out _).mono ?_)
          rintro e w7 ⟨rfl, hb7⟩
          have B7 := Lib.hid (B6.out.trans (hb7.mono B6.out.size))
          clear hb7
          by_cases hneg : lo < 0
          · go_wp2
            go_ret
            exact ⟨rfl, B7.out⟩
          · obtain ⟨g1, g2⟩ := HB2.out (by omega)
            go_wp2
            go_ret
            exact ⟨rfl, B7.out⟩
end Go.Proofs.Ythlcjigpccmbmaa
