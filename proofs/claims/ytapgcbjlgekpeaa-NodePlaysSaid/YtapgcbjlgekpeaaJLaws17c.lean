/- Layer 17: what a node tells; a config that may be. -/
import Derived.Test.YtapgcbjlgekpeaaJLaws17b
namespace Go.Proofs.Ytapgcbjlgekpeaa
open Go.ChangeShapes Go.WideShapes Go.ChangeAt Go.RowKit

theorem pol17_yes (p : Pol) (w : World) : (Op.equalIn 10000 25 (.agg #[.int .i64 p.mn, .int .i64 p.mx, .int .i64 p.tg, .int .i64 p.tl, .int .i64 p.wi, .int .i64 p.ho]) (.agg #[.int .i64 p.mn, .int .i64 p.mx, .int .i64 p.tg, .int .i64 p.tl, .int .i64 p.wi, .int .i64 p.ho])).run Try.prog w = .ok true w := by
  simp [go_sem]
theorem stab_lat {S : Nat → Prop} {p q : Option Addr} {c d : Nat} {x : NS} : Stab (fun w' => LAt S w' p c q d x) := fun _ _ h hb => h.below hb

set_option maxHeartbeats 2000000 in
set_option maxRecDepth 100000 in
theorem told17 {S : Nat → Prop} {w : World} {p q : Option Addr} {cc d B rs rh : Nat} {i : NI} {x : NS} {fz : Bool} (h : NodeAt w B i rs rh fz x) (h64 : rh ≤ 64) (l : LAt S w p cc q d x) :
    Calls Try.prog 20 #[i.ptr, .agg (x.val p cc q d)] w fun e w' => e = .returned (.bool true) ∧ Below w.heap.size w w' := by
  have hok := h.ok h64
  have hn2 : x.sa.length ≤ 256 := by have := hok.lsa; have := hok.rs2; omega
  have hm2 : x.pa.length ≤ 64 := by have := hok.lpa; have := hok.rh2; omega
  have HN2 := Lib.hid hn2
  have HM2 := Lib.hid hm2
  have B0 := Lib.hid (below1 w (.cells (x.val p cc q d) 40))
  have H0 := Lib.hid (h.below B0.out)
  have L0 := Lib.hid (l.below B0.out)
  have K0 : Hid ((w.alloc (.cells (x.val p cc q d) 40)).heap[w.heap.size]? = some (.cells (x.val p cc q d) 40 (0, 0))) := heap_alloc_at _ _ _ rfl
  have P := Lib.hid (node_policy H0.out)
  show Calls Try.prog 20 #[.pointer (some ⟨i.nb, 0, none⟩), .agg (x.val p cc q d)] w _
  clear h l hok hn2 hm2 h64
  go_enter Try.func20, Try.ntmps20
  go_upto_region 1 with fail
  generalize (w.alloc (.cells (x.val p cc q d) 40)) = W0 at *
  go_wp2_with fail
  (with_reducible refine P.out.mono ?_)
  rintro e w1 ⟨rfl, hb⟩
  have B1 := Lib.hid (B0.out.trans (hb.mono B0.out.size))
  have H1 := Lib.hid (H0.out.below hb)
  have L1 := Lib.hid (L0.out.below hb)
  have K1 := Lib.hid ((hb.block _ (lt_of_heap K0.out)).trans K0.out)
  clear hb P H0 L0 K0 B0
  have Z0 : Hid ((w1.alloc (.cells #[.int .i64 0, .int .i64 0, .int .i64 0, .int .i64 0, .int .i64 0, .int .i64 0] 25)).heap[w1.heap.size]? = some (.cells #[.int .i64 0, .int .i64 0, .int .i64 0, .int .i64 0, .int .i64 0, .int .i64 0] 25 (0, 0))) := heap_alloc_at _ _ _ rfl
  go_upto_region 2 with (first | ((with_reducible refine wpList_store_rowAs rfl 25 _ _ rfl (w1.heap.size) #[.int .i64 x.pol.mn, .int .i64 x.pol.mx, .int .i64 x.pol.tg, .int .i64 x.pol.tl, .int .i64 x.pol.wi, .int .i64 x.pol.ho] ?_ ?_ 25 #[.int .i64 0, .int .i64 0, .int .i64 0, .int .i64 0, .int .i64 0, .int .i64 0] 6 ?_ (by kernel_rfl) rfl rfl (by simp [Value.oneCell']) ?_); exact rfl; exact rfl; exact Z0.out; (first | rw [row_1_0] | rw [row_2_0] | rw [row_2_1] | rw [row_3_0] | rw [row_3_1] | rw [row_3_2] | rw [row_4_0] | rw [row_4_1] | rw [row_4_2] | rw [row_4_3] | rw [row_5_0] | rw [row_5_1] | rw [row_5_2] | rw [row_5_3] | rw [row_5_4] | rw [row_6_0] | rw [row_6_1] | rw [row_6_2] | rw [row_6_3] | rw [row_6_4] | rw [row_6_5] | simp only [setRow_alloc_past, setRow_alloc_at, World.size_alloc, Nat.add_assoc, Nat.reduceAdd, Nat.lt_add_right_iff_pos, Nat.add_lt_add_iff_left, Nat.reduceLT, Nat.zero_lt_succ, Nat.lt_add_one])) | fail)
  have hbz := below1 w1 (.cells #[.int .i64 x.pol.mn, .int .i64 x.pol.mx, .int .i64 x.pol.tg, .int .i64 x.pol.tl, .int .i64 x.pol.wi, .int .i64 x.pol.ho] 25)
  have B2 := Lib.hid (B1.out.trans (hbz.mono B1.out.size))
  have H2 := Lib.hid (H1.out.below hbz)
  have L2 := Lib.hid (L1.out.below hbz)
  have K2 := Lib.hid ((hbz.block _ (lt_of_heap K1.out)).trans K1.out)
  have Q2 : Hid ((w1.alloc (.cells #[.int .i64 x.pol.mn, .int .i64 x.pol.mx, .int .i64 x.pol.tg, .int .i64 x.pol.tl, .int .i64 x.pol.wi, .int .i64 x.pol.ho] 25)).heap[w1.heap.size]? = some (.cells #[.int .i64 x.pol.mn, .int .i64 x.pol.mx, .int .i64 x.pol.tg, .int .i64 x.pol.tl, .int .i64 x.pol.wi, .int .i64 x.pol.ho] 25 (0, 0))) := heap_alloc_at _ _ _ rfl
  clear hbz B1 H1 L1 K1 Z0
  generalize hX : w1.heap.size = X at *
  generalize (w1.alloc (.cells #[.int .i64 x.pol.mn, .int .i64 x.pol.mx, .int .i64 x.pol.tg, .int .i64 x.pol.tl, .int .i64 x.pol.wi, .int .i64 x.pol.ho] 25)) = W2 at *
  clear hX
  have hst := stab_and (stab_and (stab_node (B := B) (i := i) (rs := rs) (rh := rh) (fz := fz) (x := x)) (stab_lat (S := S) (p := p) (c := cc) (q := q) (d := d) (x := x))) (stab_and (stab_and (stab_heap w.heap.size (.cells (x.val p cc q d) 40 (0, 0))) (stab_heap X (.cells #[.int .i64 x.pol.mn, .int .i64 x.pol.mx, .int .i64 x.pol.tg, .int .i64 x.pol.tl, .int .i64 x.pol.wi, .int .i64 x.pol.ho] 25 (0, 0)))) (stab_below (B := w.heap.size) (w0 := w) (Nat.le_refl _)))
  refine wp_region_E mixed [] hst ⟨⟨H2.out.below (below_drew (Below.refl _ _)), L2.out.below (below_drew (Below.refl _ _))⟩, ⟨K2.out, Q2.out⟩, below_drew B2.out⟩ ?_
  clear H2 L2 K2 Q2 B2
  refine wpAnyE_take 0 rfl (by kernel_rfl) (by kernel_rfl) (by kernel_rfl) (fun _ _ _ h => h) hst (EffB.pure rfl (fun _ => rfl)) (.inr (EffB.pure rfl (fun _ => rfl))) ?_
  simp only [act_norm]
  refine wpAnyE_take 2 (v := .pointer (some ⟨w.heap.size, 0, none⟩)) rfl (by kernel_rfl) (by kernel_rfl) (by kernel_rfl) (fun _ _ _ h => h) hst (EffB.run rfl rfl (fun wd hS => ?_)) (.inr (EffB.run rfl rfl (fun wd hS => ?_))) ?_
  · (go_wp2; exact ⟨rfl, Below.refl _ _⟩)
  · (go_wp2; exact ⟨rfl, Below.refl _ _⟩)
  simp only [act_norm]
  refine wpAnyE_take 3 (v := .slice p x.sa.length cc) rfl (by kernel_rfl) (by kernel_rfl) (by kernel_rfl) (fun _ _ _ h => h) hst (EffB.run rfl rfl (fun wd hS => ?_)) (.inl (by kernel_rfl)) ?_
  · (have c2 : wd.cell? ⟨w.heap.size, 0, none⟩ = some (.slice p x.sa.length cc) := by rw [cell_of_row _ _ _ _ _ _ hS.2.1.1]; rfl); go_wp2; exact ⟨rfl, Below.refl _ _⟩
  simp only [act_norm]
  refine wpAnyE_one 1 rfl (by kernel_rfl) rfl (fun wd hS => ?_)
  go_wp2_with fail
  (with_reducible refine (node_samples hS.1.1).mono ?_)
  rintro e w3 ⟨p1, c1, rfl, _, hs, hb⟩
  have Y := Lib.hid (And.intro (hst _ _ hS hb) hs)
  have hst2 := stab_and hst (stab_samps (q := p1) (l := x.sa))
  refine ⟨_, Y.out, hst2, (by first | exact fun _ h => h.1 | exact .inr fun _ h => h.1), ?_⟩
  clear hS hs hb Y hst
  try simp only [act_norm]
  have hst := hst2
  clear hst2
  refine wpAnyE_take 4 (v := .bool true) rfl (by kernel_rfl) (by kernel_rfl) (by kernel_rfl) (fun _ _ _ h => h) hst (EffB.run rfl rfl (fun wd hS => ?_)) (.inl (by kernel_rfl)) ?_
  · (go_wp2_with fail; (with_reducible refine (ref08_alike p1 p _ c1 cc x.sa rfl (by have := HN2.out; omega) wd hS.2 hS.1.1.2.sa).mono ?_); rintro e w'' ⟨rfl, hb⟩; exact ⟨rfl, hb⟩)
  simp only [act_norm]
  refine wpAnyE_take 5 rfl (by kernel_rfl) (by kernel_rfl) (by kernel_rfl) (fun _ _ _ h => h) hst (EffB.pure rfl (fun _ => rfl)) (.inr (EffB.pure rfl (fun _ => rfl))) ?_
  simp only [act_norm]
  refine wpAnyE_take 6 rfl (by kernel_rfl) (by kernel_rfl) (by kernel_rfl) (fun _ _ _ h => h) hst (EffB.pure rfl (fun _ => rfl)) (.inr (EffB.pure rfl (fun _ => rfl))) ?_
  simp only [act_norm]
  refine wpAnyE_take 8 (v := .pointer (some ⟨w.heap.size, 1, none⟩)) rfl (by kernel_rfl) (by kernel_rfl) (by kernel_rfl) (fun _ _ _ h => h) hst (EffB.run rfl rfl (fun wd hS => ?_)) (.inr (EffB.run rfl rfl (fun wd hS => ?_))) ?_
  · (go_wp2; exact ⟨rfl, Below.refl _ _⟩)
  · (go_wp2; exact ⟨rfl, Below.refl _ _⟩)
  simp only [act_norm]
  refine wpAnyE_take 9 (v := .slice q x.pa.length d) rfl (by kernel_rfl) (by kernel_rfl) (by kernel_rfl) (fun _ _ _ h => h) hst (EffB.run rfl rfl (fun wd hS => ?_)) (.inl (by kernel_rfl)) ?_
  · (have c2 : wd.cell? ⟨w.heap.size, 1, none⟩ = some (.slice q x.pa.length d) := by rw [cell_of_row _ _ _ _ _ _ hS.1.2.1.1]; rfl); go_wp2; exact ⟨rfl, Below.refl _ _⟩
  simp only [act_norm]
  refine wpAnyE_one 7 rfl (by kernel_rfl) rfl (fun wd hS => ?_)
  go_wp2_with fail
  (with_reducible refine (node_past hS.1.1.1).mono ?_)
  rintro e w3 ⟨q1, d1, rfl, _, hs, hb⟩
  have Y := Lib.hid (And.intro (hst _ _ hS hb) hs)
  have hst2 := stab_and hst (stab_advs (q := q1) (l := x.pa))
  refine ⟨_, Y.out, hst2, (by first | exact fun _ h => h.1 | exact .inr fun _ h => h.1), ?_⟩
  clear hS hs hb Y hst
  try simp only [act_norm]
  have hst := hst2
  clear hst2
  refine wpAnyE_take 10 (v := .bool true) rfl (by kernel_rfl) (by kernel_rfl) (by kernel_rfl) (fun _ _ _ h => h) hst (EffB.run rfl rfl (fun wd hS => ?_)) (.inl (by kernel_rfl)) ?_
  · (go_wp2_with fail; (with_reducible refine (ref14_same q1 q _ d1 d x.pa rfl (by have := HM2.out; omega) wd hS.2 hS.1.1.1.2.pa).mono ?_); rintro e w'' ⟨rfl, hb⟩; exact ⟨rfl, hb⟩)
  simp only [act_norm]
  refine wpAnyE_take 11 (v := .bool true) rfl (by kernel_rfl) (by kernel_rfl) (by kernel_rfl) (fun _ _ _ h => h) hst (EffB.run rfl rfl (fun wd hS => ?_)) (.inr (EffB.run rfl rfl (fun wd hS => ?_))) ?_
  · (go_wp2; exact ⟨rfl, Below.refl _ _⟩)
  · (go_wp2; exact ⟨rfl, Below.refl _ _⟩)
  simp only [act_norm]
  refine wpAnyE_take 12 rfl (by kernel_rfl) (by kernel_rfl) (by kernel_rfl) (fun _ _ _ h => h) hst (EffB.pure rfl (fun _ => rfl)) (.inr (EffB.pure rfl (fun _ => rfl))) ?_
  simp only [act_norm]
  refine wpAnyE_take 13 (v := .agg #[.int .i64 x.pol.mn, .int .i64 x.pol.mx, .int .i64 x.pol.tg, .int .i64 x.pol.tl, .int .i64 x.pol.wi, .int .i64 x.pol.ho]) rfl (by kernel_rfl) (by kernel_rfl) (by kernel_rfl) (fun _ _ _ h => h) hst (EffB.run rfl rfl (fun wd hS => ?_)) (.inl (by kernel_rfl)) ?_
  · exact wp_load_row 25 _ rfl (X) rfl 25 #[.int .i64 x.pol.mn, .int .i64 x.pol.mx, .int .i64 x.pol.tg, .int .i64 x.pol.tl, .int .i64 x.pol.wi, .int .i64 x.pol.ho] (0, 0) _ (hS.1.1.2.1.2) Try.underlying25 rfl (by kernel_rfl) ⟨rfl, Below.refl _ _⟩
  simp only [act_norm]
  refine wpAnyE_take 14 (v := .pointer (some ⟨w.heap.size, 2, none⟩)) rfl (by kernel_rfl) (by kernel_rfl) (by kernel_rfl) (fun _ _ _ h => h) hst (EffB.run rfl rfl (fun wd hS => ?_)) (.inr (EffB.run rfl rfl (fun wd hS => ?_))) ?_
  · (go_wp2; exact ⟨rfl, Below.refl _ _⟩)
  · (go_wp2; exact ⟨rfl, Below.refl _ _⟩)
  simp only [act_norm]
  refine wpAnyE_take 15 (v := .agg #[.int .i64 x.pol.mn, .int .i64 x.pol.mx, .int .i64 x.pol.tg, .int .i64 x.pol.tl, .int .i64 x.pol.wi, .int .i64 x.pol.ho]) rfl (by kernel_rfl) (by kernel_rfl) (by kernel_rfl) (fun _ _ _ h => h) hst (EffB.run rfl rfl (fun wd hS => ?_)) (.inl (by kernel_rfl)) ?_
  · (have k2 : wd.cell? ⟨w.heap.size, 2, none⟩ = some (.int .i64 x.pol.mn) := (by rw [cell_of_row _ _ _ _ _ _ hS.1.1.2.1.1]; rfl); have k3 : wd.cell? ⟨w.heap.size, 3, none⟩ = some (.int .i64 x.pol.mx) := (by rw [cell_of_row _ _ _ _ _ _ hS.1.1.2.1.1]; rfl); have k4 : wd.cell? ⟨w.heap.size, 4, none⟩ = some (.int .i64 x.pol.tg) := (by rw [cell_of_row _ _ _ _ _ _ hS.1.1.2.1.1]; rfl); have k5 : wd.cell? ⟨w.heap.size, 5, none⟩ = some (.int .i64 x.pol.tl) := (by rw [cell_of_row _ _ _ _ _ _ hS.1.1.2.1.1]; rfl); have k6 : wd.cell? ⟨w.heap.size, 6, none⟩ = some (.int .i64 x.pol.wi) := (by rw [cell_of_row _ _ _ _ _ _ hS.1.1.2.1.1]; rfl); have k7 : wd.cell? ⟨w.heap.size, 7, none⟩ = some (.int .i64 x.pol.ho) := (by rw [cell_of_row _ _ _ _ _ _ hS.1.1.2.1.1]; rfl); go_wp2; exact ⟨rfl, Below.refl _ _⟩)
  simp only [act_norm]
  refine wpAnyE_take 16 (v := .bool true) rfl (by kernel_rfl) (by kernel_rfl) (by kernel_rfl) (fun _ _ _ h => h) hst (EffB.run rfl rfl (fun wd hS => ?_)) (.inl (by kernel_rfl)) ?_
  · exact wp_eql_agg _ _ _ _ rfl _ _ rfl rfl true (by kernel_rfl) (pol17_yes _ _) ⟨rfl, Below.refl _ _⟩
  simp only [act_norm]
  refine wpAnyE_take 17 (v := .bool true) rfl (by kernel_rfl) (by kernel_rfl) (by kernel_rfl) (fun _ _ _ h => h) hst (EffB.run rfl rfl (fun wd hS => ?_)) (.inr (EffB.run rfl rfl (fun wd hS => ?_))) ?_
  · (go_wp2; exact ⟨rfl, Below.refl _ _⟩)
  · (go_wp2; exact ⟨rfl, Below.refl _ _⟩)
  simp only [act_norm]
  refine wpAnyE_take 18 rfl (by kernel_rfl) (by kernel_rfl) (by kernel_rfl) (fun _ _ _ h => h) hst (EffB.pure rfl (fun _ => rfl)) (.inr (EffB.pure rfl (fun _ => rfl))) ?_
  simp only [act_norm]
  refine wpAnyE_take 19 rfl (by kernel_rfl) (by kernel_rfl) (by kernel_rfl) (fun _ _ _ h => h) hst (EffB.pure rfl (fun _ => rfl)) (.inr (EffB.pure rfl (fun _ => rfl))) ?_
  simp only [act_norm]
  refine wpAnyE_take 20 (v := .pointer (some ⟨w.heap.size, 8, none⟩)) rfl (by kernel_rfl) (by kernel_rfl) (by kernel_rfl) (fun _ _ _ h => h) hst (EffB.run rfl rfl (fun wd hS => ?_)) (.inr (EffB.run rfl rfl (fun wd hS => ?_))) ?_
  · (go_wp2; exact ⟨rfl, Below.refl _ _⟩)
  · (go_wp2; exact ⟨rfl, Below.refl _ _⟩)
  simp only [act_norm]
  refine wpAnyE_take 21 (v := .bool x.ruled) rfl (by kernel_rfl) (by kernel_rfl) (by kernel_rfl) (fun _ _ _ h => h) hst (EffB.run rfl rfl (fun wd hS => ?_)) (.inl (by kernel_rfl)) ?_
  · (have c2 : wd.cell? ⟨w.heap.size, 8, none⟩ = some (.bool x.ruled) := by rw [cell_of_row _ _ _ _ _ _ hS.1.1.2.1.1]; rfl); go_wp2; exact ⟨rfl, Below.refl _ _⟩
  simp only [act_norm]
  refine wpAnyE_take 22 (v := .bool true) rfl (by kernel_rfl) (by kernel_rfl) (by kernel_rfl) (fun _ _ _ h => h) hst (EffB.run rfl rfl (fun wd hS => ?_)) (.inr (EffB.run rfl rfl (fun wd hS => ?_))) ?_
  · (go_wp2; exact ⟨rfl, Below.refl _ _⟩)
  · (go_wp2; exact ⟨rfl, Below.refl _ _⟩)
  simp only [act_norm]
  refine wpAnyE_take 23 (v := .bool true) rfl (by kernel_rfl) (by kernel_rfl) (by kernel_rfl) (fun _ _ _ h => h) hst (EffB.run rfl rfl (fun wd hS => ?_)) (.inr (EffB.run rfl rfl (fun wd hS => ?_))) ?_
  · (go_wp2; exact ⟨rfl, Below.refl _ _⟩)
  · (go_wp2; exact ⟨rfl, Below.refl _ _⟩)
  simp only [act_norm]
  refine wpAnyE_take 24 rfl (by kernel_rfl) (by kernel_rfl) (by kernel_rfl) (fun _ _ _ h => h) hst (EffB.pure rfl (fun _ => rfl)) (.inr (EffB.pure rfl (fun _ => rfl))) ?_
  simp only [act_norm]
  refine wpAnyE_take 25 rfl (by kernel_rfl) (by kernel_rfl) (by kernel_rfl) (fun _ _ _ h => h) hst (EffB.pure rfl (fun _ => rfl)) (.inr (EffB.pure rfl (fun _ => rfl))) ?_
  simp only [act_norm]
  refine wpAnyE_take 26 (v := .int .i64 (x.ver : Nat)) rfl (by kernel_rfl) (by kernel_rfl) (by kernel_rfl) (fun _ _ _ h => h) hst (EffB.run rfl rfl (fun wd hS => ?_)) (.inl (by kernel_rfl)) ?_
  · (go_wp2_with fail; (with_reducible refine (node_version hS.1.1.1.1).mono ?_); rintro e w'' ⟨rfl, rfl⟩; exact ⟨rfl, Below.refl _ _⟩)
  simp only [act_norm]
  refine wpAnyE_take 27 (v := .pointer (some ⟨w.heap.size, 9, none⟩)) rfl (by kernel_rfl) (by kernel_rfl) (by kernel_rfl) (fun _ _ _ h => h) hst (EffB.run rfl rfl (fun wd hS => ?_)) (.inr (EffB.run rfl rfl (fun wd hS => ?_))) ?_
  · (go_wp2; exact ⟨rfl, Below.refl _ _⟩)
  · (go_wp2; exact ⟨rfl, Below.refl _ _⟩)
  simp only [act_norm]
  refine wpAnyE_take 28 (v := .int .i64 (x.ver : Nat)) rfl (by kernel_rfl) (by kernel_rfl) (by kernel_rfl) (fun _ _ _ h => h) hst (EffB.run rfl rfl (fun wd hS => ?_)) (.inl (by kernel_rfl)) ?_
  · (have c2 : wd.cell? ⟨w.heap.size, 9, none⟩ = some (.int .i64 (x.ver : Nat)) := by rw [cell_of_row _ _ _ _ _ _ hS.1.1.2.1.1]; rfl); go_wp2; exact ⟨rfl, Below.refl _ _⟩
  simp only [act_norm]
  refine wpAnyE_take 29 (v := .bool true) rfl (by kernel_rfl) (by kernel_rfl) (by kernel_rfl) (fun _ _ _ h => h) hst (EffB.run rfl rfl (fun wd hS => ?_)) (.inr (EffB.run rfl rfl (fun wd hS => ?_))) ?_
  · (go_wp2; exact ⟨rfl, Below.refl _ _⟩)
  · (go_wp2; exact ⟨rfl, Below.refl _ _⟩)
  simp only [act_norm]
  refine wpAnyE_take 30 (v := .bool true) rfl (by kernel_rfl) (by kernel_rfl) (by kernel_rfl) (fun _ _ _ h => h) hst (EffB.run rfl rfl (fun wd hS => ?_)) (.inr (EffB.run rfl rfl (fun wd hS => ?_))) ?_
  · (go_wp2; exact ⟨rfl, Below.refl _ _⟩)
  · (go_wp2; exact ⟨rfl, Below.refl _ _⟩)
  simp only [act_norm]
  refine wpAnyE_take 31 rfl (by kernel_rfl) (by kernel_rfl) (by kernel_rfl) (fun _ _ _ h => h) hst (EffB.pure rfl (fun _ => rfl)) (.inr (EffB.pure rfl (fun _ => rfl))) ?_
  simp only [act_norm]
  refine wpAnyE_done (by kernel_rfl) (fun wd hS => ?_) _
  have HF := Lib.hid hS.1.1.2.2
  clear hS hst
  go_wp2
  go_ret
  exact ⟨rfl, HF.out⟩
end Go.Proofs.Ytapgcbjlgekpeaa
