/- Layer 48: what is decided sample by sample breaks no rule. -/
import Derived.Test.YtcanbagnehdbiaaJAudit10
namespace Go.Proofs.Ytcanbagnehdbiaa
open Go.ChangeShapes Go.WideShapes Go.ChangeAt Go.RowKit

set_option maxHeartbeats 1000000 in
set_option maxRecDepth 100000 in
theorem auditFine_walk (p : Pol) (hp : p.In) (q : Option Addr) (cap : Nat) (l : List Samp) (hl : ∀ a ∈ l, a.In) (hb : l.length ≤ 9223372036854775807) (sa ro : Int) (w : World) (hs : Samps w q l) :
    Calls Try.prog 4 #[.agg #[.int .i64 p.mn, .int .i64 p.mx, .int .i64 p.tg, .int .i64 p.tl, .int .i64 p.wi, .int .i64 p.ho], .slice q l.length cap, .int .i64 sa, .int .i64 ro] w fun e w' => e = .returned (.bool true) ∧ Below w.heap.size w w' := by
  obtain ⟨n, en⟩ : ∃ n, n = l.length := ⟨_, rfl⟩
  by_cases h1 : 20 < n
  · have d1 : decide ((20 : Int) < n) = true := decide_eq_true (by omega)
    rw [← en] at hb ⊢
    clear en hs hl
    go_enter Try.func4, Try.ntmps4
    go_wp2_with fail
    (with_reducible refine (awake48 _).mono ?_)
    rintro e w1 ⟨rfl, hb1⟩
    have M1 := Lib.hid (((Mem.start w).alloc (.cells #[.int .i64 p.mn, .int .i64 p.mx, .int .i64 p.tg, .int .i64 p.tl, .int .i64 p.wi, .int .i64 p.ho] 23)).call hb1)
    clear hb1
    go_wp2
    go_ret
    exact ⟨rfl, M1.out.below⟩
  have d1 : decide ((20 : Int) < n) = false := decide_eq_false (by omega)
  have f1 := fun W : World => fun h : Samps W q l => follow_of p hp q cap l hl (by omega) sa ro W h
  have hlen := Fol.length_le p l sa ro
  obtain ⟨fx, fin⟩ := Fol.fine p hp l hl sa ro
  have f2 := fun (W : World) (q' : Option Addr) (c : Nat) => fun h : Advs W q' (Fol.of p l sa ro) => audit_check p hp q' c (Fol.of p l sa ro) fin (by omega) ro W h (-1) 0 fx
  obtain ⟨r, er⟩ : ∃ r, r = Fol.of p l sa ro := ⟨_, rfl⟩
  rw [← er] at hlen
  simp only [← er] at f1 f2
  obtain ⟨m, em⟩ : ∃ n, n = r.length := ⟨_, rfl⟩
  simp only [← em] at f1 f2
  rw [← en] at hb
  simp only [← en] at f1 f2 ⊢
  have F1 := Lib.hid f1
  have F2 := Lib.hid f2
  have HS := Lib.hid hs
  clear f1 f2 hs em en hl hp er hlen fx fin
  go_enter Try.func4, Try.ntmps4
  go_wp2_with fail
  (with_reducible refine (awake48 _).mono ?_)
  rintro e w1 ⟨rfl, hb1⟩
  have M1 := Lib.hid (((Mem.start w).alloc (.cells #[.int .i64 p.mn, .int .i64 p.mx, .int .i64 p.tg, .int .i64 p.tl, .int .i64 p.wi, .int .i64 p.ho] 23)).call hb1)
  have K0 := Lib.hid (M1.out.heap 0 rfl)
  have S1 := Lib.hid (HS.out.below M1.out.below)
  clear hb1
  go_wp2_with fail
  have hst := stab_and (stab_mem (w := w) (bs := [(w.heap.size, .cells #[.int .i64 p.mn, .int .i64 p.mx, .int .i64 p.tg, .int .i64 p.tl, .int .i64 p.wi, .int .i64 p.ho] 23)])) (stab_samps (q := q) (l := l))
  refine wp_region_E mixed [] hst ⟨M1.out.drewN 1, HS.out.below (M1.out.drewN 1).below⟩ ?_
  clear S1 K0
  refine wpAnyE_take 0 (v := .agg #[.int .i64 p.mn, .int .i64 p.mx, .int .i64 p.tg, .int .i64 p.tl, .int .i64 p.wi, .int .i64 p.ho]) rfl (by kernel_rfl) (by kernel_rfl) (by kernel_rfl) (fun _ _ _ h => h) hst (EffB.run rfl rfl (fun wd hS => ?_)) (.inl (by kernel_rfl)) ?_
  · exact wp_load_row 23 _ rfl (w.heap.size) rfl 23 #[.int .i64 p.mn, .int .i64 p.mx, .int .i64 p.tg, .int .i64 p.tl, .int .i64 p.wi, .int .i64 p.ho] (0, 0) _ (hS.1.heap 0 rfl) Try.underlying23 rfl (by kernel_rfl) ⟨rfl, Below.refl _ _⟩
  simp only [act_norm]
  refine wpAnyE_take 1 (v := .agg #[.int .i64 p.mn, .int .i64 p.mx, .int .i64 p.tg, .int .i64 p.tl, .int .i64 p.wi, .int .i64 p.ho]) rfl (by kernel_rfl) (by kernel_rfl) (by kernel_rfl) (fun _ _ _ h => h) hst (EffB.run rfl rfl (fun wd hS => ?_)) (.inl (by kernel_rfl)) ?_
  · exact wp_load_row 23 _ rfl (w.heap.size) rfl 23 #[.int .i64 p.mn, .int .i64 p.mx, .int .i64 p.tg, .int .i64 p.tl, .int .i64 p.wi, .int .i64 p.ho] (0, 0) _ (hS.1.heap 0 rfl) Try.underlying23 rfl (by kernel_rfl) ⟨rfl, Below.refl _ _⟩
  simp only [act_norm]
  refine wpAnyE_take 2 rfl (by kernel_rfl) (by kernel_rfl) (by kernel_rfl) (fun _ _ _ h => h) hst (EffB.pure rfl (fun _ => rfl)) (.inr (EffB.pure rfl (fun _ => rfl))) ?_
  simp only [act_norm]
  refine wpAnyE_take 3 rfl (by kernel_rfl) (by kernel_rfl) (by kernel_rfl) (fun _ _ _ h => h) hst (EffB.pure rfl (fun _ => rfl)) (.inr (EffB.pure rfl (fun _ => rfl))) ?_
  simp only [act_norm]
  refine wpAnyE_take 4 rfl (by kernel_rfl) (by kernel_rfl) (by kernel_rfl) (fun _ _ _ h => h) hst (EffB.pure rfl (fun _ => rfl)) (.inr (EffB.pure rfl (fun _ => rfl))) ?_
  simp only [act_norm]
  refine wpAnyE_take 6 rfl (by kernel_rfl) (by kernel_rfl) (by kernel_rfl) (fun _ _ _ h => h) hst (EffB.pure rfl (fun _ => rfl)) (.inr (EffB.pure rfl (fun _ => rfl))) ?_
  simp only [act_norm]
  refine wpAnyE_one 5 rfl (by kernel_rfl) rfl (fun wd hS => ?_)
  go_wp2_with fail
  (with_reducible refine (F1.out wd hS.2).mono ?_)
  rintro e w2 ⟨q2, c2, rfl, hs2, hb2⟩
  have hstN := stab_and hst (stab_advs (q := q2) (l := r))
  have Y1 := Lib.hid (And.intro (hst _ _ hS hb2) hs2)
  clear hS hs2 hb2
  go_wp2
  refine ⟨_, Y1.out, hstN, (by first | exact fun _ h => h.1 | exact .inr fun _ h => h.1), ?_⟩
  clear Y1 hst
  try simp only [act_norm]
  have hst := hstN
  clear hstN
  refine wpAnyE_take 7 (v := .tuple #[.int .i64 (-1), .int .i64 0]) rfl (by kernel_rfl) (by kernel_rfl) (by kernel_rfl) (fun _ _ _ h => h) hst (EffB.run rfl rfl (fun wd hS => ?_)) (.inl (by kernel_rfl)) ?_
  · (go_wp2_with fail; (with_reducible refine (F2.out wd q2 c2 hS.2).mono ?_); rintro e w'' ⟨rfl, hb⟩; exact ⟨rfl, hb⟩)
  simp only [act_norm]
  refine wpAnyE_take 8 rfl (by kernel_rfl) (by kernel_rfl) (by kernel_rfl) (fun _ _ _ h => h) hst (EffB.pure rfl (fun _ => rfl)) (.inr (EffB.pure rfl (fun _ => rfl))) ?_
  simp only [act_norm]
  refine wpAnyE_take 9 rfl (by kernel_rfl) (by kernel_rfl) (by kernel_rfl) (fun _ _ _ h => h) hst (EffB.pure rfl (fun _ => rfl)) (.inr (EffB.pure rfl (fun _ => rfl))) ?_
  simp only [act_norm]
  refine wpAnyE_take 10 rfl (by kernel_rfl) (by kernel_rfl) (by kernel_rfl) (fun _ _ _ h => h) hst (EffB.pure rfl (fun _ => rfl)) (.inr (EffB.pure rfl (fun _ => rfl))) ?_
  simp only [act_norm]
  refine wpAnyE_take 11 rfl (by kernel_rfl) (by kernel_rfl) (by kernel_rfl) (fun _ _ _ h => h) hst (EffB.pure rfl (fun _ => rfl)) (.inr (EffB.pure rfl (fun _ => rfl))) ?_
  simp only [act_norm]
  refine wpAnyE_take 12 rfl (by kernel_rfl) (by kernel_rfl) (by kernel_rfl) (fun _ _ _ h => h) hst (EffB.pure rfl (fun _ => rfl)) (.inr (EffB.pure rfl (fun _ => rfl))) ?_
  simp only [act_norm]
  refine wpAnyE_done (by kernel_rfl) (fun wd hS => ?_) _
  have MF := Lib.hid hS.1.1
  clear hS hst
  go_wp2
  go_ret
  exact ⟨rfl, MF.out.below⟩
end Go.Proofs.Ytcanbagnehdbiaa
