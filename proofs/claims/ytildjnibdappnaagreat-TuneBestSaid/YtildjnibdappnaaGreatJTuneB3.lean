/- Layer 45: the best of some values, by the reference. -/
import Derived.Test.YtildjnibdappnaaGreatJTuneB2
namespace Go.Proofs.YtildjnibdappnaaGreat
open Go.ChangeShapes Go.WideShapes Go.ChangeAt Go.RowKit

theorem Adf.apart {A : Nat} {w : World} {q : Option Addr} {l : List Adv} (h : Adf A w q l) : (∀ W, Advs W q l) ∨ (∀ ad, q = some ad → ad.block ≠ w.heap.size) := by
  rcases h.1 with h0 | ⟨b, off, e, hb, _⟩
  · exact .inl fun W => .inl h0
  · refine .inr fun ad h1 => ?_
    rw [e] at h1
    cases h1
    exact Nat.ne_of_lt hb
theorem Adf.setRowX {A X : Nat} {w : World} {q : Option Addr} {l : List Adv} (h : Adf A w q l) (hx : (∀ W, Advs W q l) ∨ (∀ ad, q = some ad → ad.block ≠ X)) (cs : Array Value) : Adf A (w.setRow X cs) q l := by
  refine ⟨?_, h.2⟩
  rcases hx with h0 | h1
  · exact h0 _
  · exact h.1.turnedF (turned_setRow w X cs) (fun ad e => h1 ad e)

set_option maxHeartbeats 8000000 in
set_option maxRecDepth 100000 in
theorem ref45_best (p : Pol) (hp : p.In) (fld : Int) (qv : Option Addr) (capv : Nat) (vals : List Int) (hv : ∀ x ∈ vals, I64 x) (hbv : vals.length ≤ 100000) (q : Option Addr) (cap : Nat) (l : List Samp) (hl : ∀ a ∈ l, a.In) (hb : l.length ≤ 1000) (sa ro : Int) (w : World) (hsv : Ints .i64 w qv vals) (hs : Samps w q l)
    (vo : Int) (Ro : Res) (co : Int) (hout : Bst.go (fun i => vals[i]?.getD 0) (fun i => Run.code (Pol.with p fld (vals[i]?.getD 0)) sa ro) (fun i => Run.res (Pol.with p fld (vals[i]?.getD 0)) l sa ro) 0 (vals.length - 0) 0 Res.zero false = (vo, Ro, co)) :
    Calls Tryz.prog 14 #[.agg #[.int .i64 p.mn, .int .i64 p.mx, .int .i64 p.tg, .int .i64 p.tl, .int .i64 p.wi, .int .i64 p.ho], .int .i64 fld, .slice qv vals.length capv, .slice q l.length cap, .int .i64 sa, .int .i64 ro] w fun e w' => ∃ (u : Option Addr) (d : Nat), e = .returned (.tuple #[.int .i64 vo, .agg (Ro.cells u d), .int .i64 co]) ∧ Advs w' u Ro.r ∧ Below w.heap.size w w' := by
  have f1 := fun (i : Nat) (W : World) => ref45_with p fld (vals[i]?.getD 0) W
  have hin : ∀ i, i < vals.length → I64 (vals[i]?.getD 0) := fun i hi => by rw [List.getElem?_eq_getElem hi]; exact hv _ (List.getElem_mem _)
  have f2 := fun (i : Nat) (hi : i < vals.length) (W : World) (h : Samps W q l) => run45_res (Pol.with p fld (vals[i]?.getD 0)) (Pol.with_In hp fld (hin i hi)) q cap l hl hb sa ro W h
  have hcv := fun (W : World) (h : Below w.heap.size w W) (k : Nat) (hk : k < vals.length) => Ints.at45 (hsv.below h) k hk
  obtain ⟨Q, eQ⟩ : ∃ Q : Nat → Pol, Q = fun i => Pol.with p fld (vals[i]?.getD 0) := ⟨_, rfl⟩
  have hQ : ∀ i, Pol.with p fld (vals[i]?.getD 0) = Q i := fun i => by rw [eQ]
  obtain ⟨V, eV⟩ : ∃ V : Nat → Int, V = fun i => vals[i]?.getD 0 := ⟨_, rfl⟩
  have hV : ∀ i, vals[i]?.getD 0 = V i := fun i => by rw [eV]
  obtain ⟨cc, ec⟩ : ∃ cc : Nat → Int, cc = fun i => Run.code (Pol.with p fld (vals[i]?.getD 0)) sa ro := ⟨_, rfl⟩
  have hcc : ∀ i, Run.code (Q i) sa ro = cc i := fun i => by rw [ec, eQ]
  obtain ⟨SS, eS⟩ : ∃ SS : Nat → Res, SS = fun i => Run.res (Pol.with p fld (vals[i]?.getD 0)) l sa ro := ⟨_, rfl⟩
  have hSS : ∀ i, Run.res (Q i) l sa ro = SS i := fun i => by rw [eS, eQ]
  rw [← eV, ← ec, ← eS] at hout
  simp only [hQ, hcc, hSS] at f1 f2
  simp only [hV] at f1 hcv
  have F1 := Lib.hid f1
  have F2 := Lib.hid f2
  have HCV := Lib.hid hcv
  have HS := Lib.hid hs
  have HO := Lib.hid hout
  obtain ⟨n', en'⟩ : ∃ n, n = l.length := ⟨_, rfl⟩
  simp only [← en'] at F2 ⊢
  obtain ⟨n, en⟩ : ∃ n, n = vals.length := ⟨_, rfl⟩
  rw [← en] at hbv
  simp only [← en] at F2 HCV HO ⊢
  have M0 : Hid (Mem w (((w.alloc (.cells #[.int .i64 p.mn, .int .i64 p.mx, .int .i64 p.tg, .int .i64 p.tl, .int .i64 p.wi, .int .i64 p.ho] 23)).alloc (.cells #[.slice none 0 0, .int .i64 0, .int .i64 0, .int .i64 0, .int .i64 0, .int .i64 0, .int .i64 0] 34)).alloc (.cells #[.slice none 0 0, .int .i64 0, .int .i64 0, .int .i64 0, .int .i64 0, .int .i64 0, .int .i64 0] 34)) [(w.heap.size, .cells #[.int .i64 p.mn, .int .i64 p.mx, .int .i64 p.tg, .int .i64 p.tl, .int .i64 p.wi, .int .i64 p.ho] 23), (w.heap.size + 1, .cells #[.slice none 0 0, .int .i64 0, .int .i64 0, .int .i64 0, .int .i64 0, .int .i64 0, .int .i64 0] 34), (w.heap.size + 2, .cells #[.slice none 0 0, .int .i64 0, .int .i64 0, .int .i64 0, .int .i64 0, .int .i64 0, .int .i64 0] 34)]) := (((Mem.start w).alloc _).allocAs (w.heap.size + 1) _ (by simp)).allocAs (w.heap.size + 2) _ (by simp)
  clear f1 f2 hin hcv hs hout en' en eQ eV ec eS hQ hV hcc hSS hsv hv hl hp hb
  go_enter Tryz.func14, Tryz.ntmps14
  go_wp2
  go_loopw [15, 17, 18] (fun v f i wr => ∃ (k : Nat) (v' : Int) (R : Res) (f' : Bool) (u : Option Addr) (d : Nat) (fc : Int), k ≤ n ∧ i = .int .i64 (k : Nat) ∧ v = .int .i64 v' ∧ f = .int .i64 fc ∧ Hid (fc = if f' = true then 0 else 5) ∧ (f' = false → v' = 0 ∧ R = Res.zero) ∧ Bst.go V cc SS k (n - k) v' R f' = (vo, Ro, co) ∧ Mem w wr [(w.heap.size, .cells #[.int .i64 p.mn, .int .i64 p.mx, .int .i64 p.tg, .int .i64 p.tl, .int .i64 p.wi, .int .i64 p.ho] 23), (w.heap.size + 1, .cells #[.slice none 0 0, .int .i64 0, .int .i64 0, .int .i64 0, .int .i64 0, .int .i64 0, .int .i64 0] 34), (w.heap.size + 2, .cells (R.cells u d) 34)] ∧ Adf (w.heap.size + 3) wr u R.r) (fun _ _ i _ => n - (intOf i).toNat)
  case atStart => exact ⟨0, 0, Res.zero, false, none, 0, 5, by omega, rfl, rfl, rfl, rfl, fun _ => ⟨rfl, rfl⟩, HO.out, M0.out, Adf.none _ _⟩
  case round =>
    obtain ⟨k, v', R, f', u, d, fc, hk, rfl, rfl, rfl, HFC, hfn, hgo, hM, hA⟩ := hrel
    obtain ⟨r, C, T, a, b, x, y⟩ := R
    simp only [Res.cells] at hM
    obtain ⟨m, em⟩ : ∃ m, m = r.length := ⟨_, rfl⟩
    rw [← em] at hM
    have EM := Lib.hid em
    have HFN := Lib.hid hfn
    clear em hfn
    by_cases hkn : k < n
    · have hkn' : (k : Int) < (n : Int) := by omega
      have f1 := F1.out k
      have f2 := F2.out k hkn
      have HT := Lib.hid (fun (h : cc k = 0) (h2 : f' = false ∨ (SS k).cmp ⟨r, C, T, a, b, x, y⟩ < 0) => (Bst.go_take hkn h h2).symm.trans hgo)
      have HKP := Lib.hid (fun (h : cc k = 0) (h2 : ¬ (f' = false ∨ (SS k).cmp ⟨r, C, T, a, b, x, y⟩ < 0)) => (Bst.go_keep hkn h h2).symm.trans hgo)
      have HSK := Lib.hid (fun (h : cc k = 7) => (Bst.go_skip hkn h).symm.trans hgo)
      have HST := Lib.hid (fun (h : cc k ≠ 7) (h2 : cc k ≠ 0) => (Bst.go_stop (V := V) (S := SS) (v := v') (R := ⟨r, C, T, a, b, x, y⟩) (f := f') hkn h h2).symm.trans hgo)
      obtain ⟨g, off, rfl, hbw, _⟩ := HCV.out wr hM.below k hkn
      obtain ⟨xv, exv⟩ : ∃ x, x = V k := ⟨_, rfl⟩
      have HC : Hid (∀ W : World, Below w.heap.size w W → W.cell? ⟨g, off + k, none⟩ = some (.int .i64 xv)) := fun W h => by
        obtain ⟨g', off', e', _, hc⟩ := HCV.out W h k hkn
        simp only [Option.some.injEq, Addr.mk.injEq, and_true] at e'
        obtain ⟨rfl, rfl⟩ := e'
        rw [exv]
        exact hc
      rw [← exv] at HT
      rw [← exv] at f1
      obtain ⟨c, ecc⟩ : ∃ c, c = cc k := ⟨_, rfl⟩
      simp only [← ecc] at f2 HT HKP HSK HST
      obtain ⟨S4, eS4⟩ : ∃ S, S = SS k := ⟨_, rfl⟩
      simp only [← eS4] at f2 HT HKP
      obtain ⟨r4, C4, T4, a4, b4, x4, y4⟩ := S4
      simp only [Res.cells] at f2
      obtain ⟨m4, em4⟩ : ∃ m, m = r4.length := ⟨_, rfl⟩
      simp only [← em4] at f2
      have EM4 := Lib.hid em4
      obtain ⟨Qk, eQk⟩ : ∃ Q', Q' = Q k := ⟨_, rfl⟩
      simp only [← eQk] at f1 f2
      obtain ⟨mn, mx, tg, tl, wi, ho⟩ := Qk
      have G1 := Lib.hid f1
      have G2 := Lib.hid f2
      have M1 := Lib.hid hM
      have A1 := Lib.hid hA
      clear f1 f2 hgo hM hA exv ecc eS4 em4 eQk HCV HO F1 F2
      go_wp2_with fail
      have hst := stab_and (stab_mem (w := w) (bs := [(w.heap.size, .cells #[.int .i64 p.mn, .int .i64 p.mx, .int .i64 p.tg, .int .i64 p.tl, .int .i64 p.wi, .int .i64 p.ho] 23), (w.heap.size + 1, .cells #[.slice none 0 0, .int .i64 0, .int .i64 0, .int .i64 0, .int .i64 0, .int .i64 0, .int .i64 0] 34), (w.heap.size + 2, .cells #[.slice u m d, .int .i64 C, .int .i64 T, .int .i64 a, .int .i64 b, .int .i64 x, .int .i64 y] 34)])) (stab_adf (A := w.heap.size + 3) (q := u) (l := r))
      refine wp_region_E mixed [15] hst ⟨M1.out.drewN 1, A1.out.below (below_drew (Below.refl _ _))⟩ ?_
      refine wpAnyE_take 0 (v := .agg #[.int .i64 p.mn, .int .i64 p.mx, .int .i64 p.tg, .int .i64 p.tl, .int .i64 p.wi, .int .i64 p.ho]) rfl (by kernel_rfl) (by kernel_rfl) (by kernel_rfl) (fun _ _ _ h => h) hst (EffB.run rfl rfl (fun wd hS => ?_)) (.inl (by kernel_rfl)) ?_
      · exact wp_load_row 23 _ rfl (w.heap.size) rfl 23 #[.int .i64 p.mn, .int .i64 p.mx, .int .i64 p.tg, .int .i64 p.tl, .int .i64 p.wi, .int .i64 p.ho] (0, 0) _ (hS.1.heap 0 rfl) Tryz.underlying23 rfl (by kernel_rfl) ⟨rfl, Below.refl _ _⟩
      simp only [act_norm]
      refine wpAnyE_take 1 rfl (by kernel_rfl) (by kernel_rfl) (by kernel_rfl) (fun _ _ _ h => h) hst (EffB.pure rfl (fun _ => rfl)) (.inr (EffB.pure rfl (fun _ => rfl))) ?_
      simp only [act_norm]
      refine wpAnyE_take 2 rfl (by kernel_rfl) (by kernel_rfl) (by kernel_rfl) (fun _ _ _ h => h) hst (EffB.pure rfl (fun _ => rfl)) (.inr (EffB.pure rfl (fun _ => rfl))) ?_
      simp only [act_norm]
      refine wpAnyE_take 3 rfl (by kernel_rfl) (by kernel_rfl) (by kernel_rfl) (fun _ _ _ h => h) hst (EffB.pure rfl (fun _ => rfl)) (.inr (EffB.pure rfl (fun _ => rfl))) ?_
      simp only [act_norm]
      refine wpAnyE_take 4 (v := .pointer (some ⟨g, off + k, none⟩)) rfl (by kernel_rfl) (by kernel_rfl) (by kernel_rfl) (fun _ _ _ h => h) hst (EffB.run rfl rfl (fun wd hS => ?_)) (.inr (EffB.run rfl rfl (fun wd hS => ?_))) ?_
      · (go_wp2; exact ⟨rfl, Below.refl _ _⟩)
      · (go_wp2; exact ⟨rfl, Below.refl _ _⟩)
      simp only [act_norm]
      refine wpAnyE_take 5 (v := .int .i64 xv) rfl (by kernel_rfl) (by kernel_rfl) (by kernel_rfl) (fun _ _ _ h => h) hst (EffB.run rfl rfl (fun wd hS => ?_)) (.inl (by kernel_rfl)) ?_
      · have c0 := HC.out wd hS.1.below; go_wp2; exact ⟨rfl, Below.refl _ _⟩
      simp only [act_norm]
      refine wpAnyE_take 6 (v := .agg #[.int .i64 mn, .int .i64 mx, .int .i64 tg, .int .i64 tl, .int .i64 wi, .int .i64 ho]) rfl (by kernel_rfl) (by kernel_rfl) (by kernel_rfl) (fun _ _ _ h => h) hst (EffB.run rfl rfl (fun wd hS => ?_)) (.inl (by kernel_rfl)) ?_
      · (go_wp2_with fail; (with_reducible refine (G1.out wd).mono ?_); rintro e w'' ⟨rfl, hb⟩; exact ⟨rfl, hb⟩)
      simp only [act_norm]
      refine wpAnyE_take 7 rfl (by kernel_rfl) (by kernel_rfl) (by kernel_rfl) (fun _ _ _ h => h) hst (EffB.pure rfl (fun _ => rfl)) (.inr (EffB.pure rfl (fun _ => rfl))) ?_
      simp only [act_norm]
      refine wpAnyE_take 8 rfl (by kernel_rfl) (by kernel_rfl) (by kernel_rfl) (fun _ _ _ h => h) hst (EffB.pure rfl (fun _ => rfl)) (.inr (EffB.pure rfl (fun _ => rfl))) ?_
      simp only [act_norm]
      refine wpAnyE_take 9 rfl (by kernel_rfl) (by kernel_rfl) (by kernel_rfl) (fun _ _ _ h => h) hst (EffB.pure rfl (fun _ => rfl)) (.inr (EffB.pure rfl (fun _ => rfl))) ?_
      simp only [act_norm]
      refine wpAnyE_two 10 14 rfl rfl (by kernel_rfl) rfl rfl (fun wd hS => ?_) (fun wd hS => ?_)
      · go_wp2_with fail
        (with_reducible refine (G2.out wd (HS.out.below hS.1.below)).mono ?_)
        rintro e w4 ⟨u4, d4, rfl, hA4, hb4⟩
        have hlo : w.heap.size + 3 ≤ wd.heap.size := by have := hS.1.lt (i := 2) rfl; omega
        have hstN := stab_and hst (stab_adf (A := w.heap.size + 3) (q := u4) (l := r4))
        refine ⟨_, ⟨hst _ _ hS hb4, hA4.wide hlo⟩, hstN, (by first | exact (fun _ h => h.1) | exact .inr (fun _ h => h.1)), ?_⟩
        try simp only [act_norm]
        clear hS hA4 hb4 hst hlo
        have hst := hstN
        clear hstN
        refine wpAnyE_take 11 rfl (by kernel_rfl) (by kernel_rfl) (by kernel_rfl) (fun _ _ _ h => h) hst (EffB.pure rfl (fun _ => rfl)) (.inr (EffB.pure rfl (fun _ => rfl))) ?_
        simp only [act_norm]
        refine wpAnyE_take 12 (v := .agg #[.slice u4 m4 d4, .int .i64 C4, .int .i64 T4, .int .i64 a4, .int .i64 b4, .int .i64 x4, .int .i64 y4]) rfl (by kernel_rfl) (by kernel_rfl) (by kernel_rfl) (fun _ _ _ h => h) hst (EffB.run rfl rfl (fun wd hS => ?_)) (.inr (EffB.run rfl rfl (fun wd hS => ?_))) ?_
        · (go_wp2; exact ⟨rfl, Below.refl _ _⟩)
        · (go_wp2; exact ⟨rfl, Below.refl _ _⟩)
        simp only [act_norm]
        refine wpAnyE_take 13 (v := .int .i64 c) rfl (by kernel_rfl) (by kernel_rfl) (by kernel_rfl) (fun _ _ _ h => h) hst (EffB.run rfl rfl (fun wd hS => ?_)) (.inr (EffB.run rfl rfl (fun wd hS => ?_))) ?_
        · (go_wp2; exact ⟨rfl, Below.refl _ _⟩)
        · (go_wp2; exact ⟨rfl, Below.refl _ _⟩)
        simp only [act_norm]
        refine wpAnyE_one 14 rfl (by kernel_rfl) rfl (fun wd hS => ?_)
        have hxu := hS.1.2.apart
        have hxv := hS.2.apart
        have hstN := stab_and (stab_and (stab_mem (w := w) (bs := [(w.heap.size, .cells #[.int .i64 p.mn, .int .i64 p.mx, .int .i64 p.tg, .int .i64 p.tl, .int .i64 p.wi, .int .i64 p.ho] 23), (w.heap.size + 1, .cells #[.slice none 0 0, .int .i64 0, .int .i64 0, .int .i64 0, .int .i64 0, .int .i64 0, .int .i64 0] 34), (w.heap.size + 2, .cells #[.slice u m d, .int .i64 C, .int .i64 T, .int .i64 a, .int .i64 b, .int .i64 x, .int .i64 y] 34), (wd.heap.size, .cells #[.slice none 0 0, .int .i64 0, .int .i64 0, .int .i64 0, .int .i64 0, .int .i64 0, .int .i64 0] 34)])) (stab_adf (A := w.heap.size + 3) (q := u) (l := r))) (stab_adf (A := w.heap.size + 3) (q := u4) (l := r4))
        go_wp2
        refine ⟨_, ⟨⟨hS.1.1.alloc (.cells #[.slice none 0 0, .int .i64 0, .int .i64 0, .int .i64 0, .int .i64 0, .int .i64 0, .int .i64 0] 34), hS.1.2.below (below1 _ _)⟩, hS.2.below (below1 _ _)⟩, hstN, (by first | exact (fun _ h => ⟨⟨h.1.1.init, h.1.2⟩, h.2⟩) | exact .inr (fun _ h => ⟨⟨h.1.1.init, h.1.2⟩, h.2⟩)), ?_⟩
        obtain ⟨X, hX⟩ : ∃ X, wd.heap.size = X := ⟨_, rfl⟩
        rw [hX] at hstN hxu hxv ⊢
        have HXU := Lib.hid hxu
        have HXV := Lib.hid hxv
        clear hS hX hst hxu hxv
        try simp only [act_norm]
        have hst := hstN
        clear hstN
        refine wpAnyE_one 15 rfl (by kernel_rfl) rfl (fun wd hS => ?_)
        have hstN := stab_and (stab_and (stab_mem (w := w) (bs := [(w.heap.size, .cells #[.int .i64 p.mn, .int .i64 p.mx, .int .i64 p.tg, .int .i64 p.tl, .int .i64 p.wi, .int .i64 p.ho] 23), (w.heap.size + 1, .cells #[.slice none 0 0, .int .i64 0, .int .i64 0, .int .i64 0, .int .i64 0, .int .i64 0, .int .i64 0] 34), (w.heap.size + 2, .cells #[.slice u m d, .int .i64 C, .int .i64 T, .int .i64 a, .int .i64 b, .int .i64 x, .int .i64 y] 34), (X, .cells #[.slice u4 m4 d4, .int .i64 C4, .int .i64 T4, .int .i64 a4, .int .i64 b4, .int .i64 x4, .int .i64 y4] 34)])) (stab_adf (A := w.heap.size + 3) (q := u) (l := r))) (stab_adf (A := w.heap.size + 3) (q := u4) (l := r4))
        refine wp_store_row 34 _ _ rfl X #[.slice u4 m4 d4, .int .i64 C4, .int .i64 T4, .int .i64 a4, .int .i64 b4, .int .i64 x4, .int .i64 y4] rfl rfl 34 #[.slice none 0 0, .int .i64 0, .int .i64 0, .int .i64 0, .int .i64 0, .int .i64 0, .int .i64 0] (hS.1.1.heap 3 rfl) refResSize rfl (by simp [Value.oneCell']) ?_
        refine ⟨_, ⟨⟨hS.1.1.setRow 3 rfl, hS.1.2.setRowX HXU.out _⟩, hS.2.setRowX HXV.out _⟩, hstN, .inl (by decide), ?_⟩
        try simp only [act_norm]
        clear hS hst
        have hst := hstN
        clear hstN
        refine wpAnyE_take 16 rfl (by kernel_rfl) (by kernel_rfl) (by kernel_rfl) (fun _ _ _ h => h) hst (EffB.pure rfl (fun _ => rfl)) (.inr (EffB.pure rfl (fun _ => rfl))) ?_
        simp only [act_norm]
        refine wpAnyE_done (by kernel_rfl) (fun wd hS => ?_) _
        have M4 := Lib.hid hS.1.1
        have A1 := Lib.hid hS.1.2
        have A4 := Lib.hid hS.2
        clear hS hst
        by_cases h7 : c = 7
        · subst h7
          have HK2 := Lib.hid (HSK.out rfl)
          clear HT HKP HSK HST
          go_wp2
          exact ⟨⟨k + 1, v', ⟨r, C, T, a, b, x, y⟩, f', u, d, fc, by omega, by go_num, rfl, rfl, HFC, HFN.out, HK2.out, by show Mem _ _ _; simp only [Res.cells]; rw [← EM.out]; exact M4.out.init, A1.out⟩, by simp [intOf]; omega⟩
        by_cases h0 : c = 0
        · subst h0
          have hcmp := fun W : World => ref44_cmp u4 u m4 d4 m d C4 T4 a4 b4 x4 y4 C T a b x y W
          have ez0 : (⟨r4, C4, T4, a4, b4, x4, y4⟩ : Res).cmp ⟨r, C, T, a, b, x, y⟩ = Tri.cmp C4 T4 x4 y4 C T x y := rfl
          obtain ⟨z, ez⟩ : ∃ z, z = Tri.cmp C4 T4 x4 y4 C T x y := ⟨_, rfl⟩
          rw [← ez] at ez0
          simp only [← ez] at hcmp
          simp only [ez0] at HT HKP
          have HCMP := Lib.hid hcmp
          have K4 := Lib.hid (M4.out.heap 3 rfl)
          have K2 := Lib.hid (M4.out.heap 2 rfl)
          clear ez hcmp ez0 HSK HST
          cases f' with
          | false =>
            obtain rfl : fc = 5 := HFC.out
            replace HT := Lib.hid (HT.out (by trivial) (.inl (by trivial)))
            have hcell := HC.out wd M4.out.below
            have M5 := Lib.hid (M4.out.setRow 2 (cs := #[.slice u4 m4 d4, .int .i64 C4, .int .i64 T4, .int .i64 a4, .int .i64 b4, .int .i64 x4, .int .i64 y4]) rfl)
            have A5 := Lib.hid (A4.out.setRow (w.heap.size + 2) (by omega) #[.slice u4 m4 d4, .int .i64 C4, .int .i64 T4, .int .i64 a4, .int .i64 b4, .int .i64 x4, .int .i64 y4])
            clear HKP HCMP HFN
            go_wp2_with (first | ((with_reducible refine wpList_load_rowAs rfl 34 _ rfl (X) ?_ 34 #[.slice u4 m4 d4, .int .i64 C4, .int .i64 T4, .int .i64 a4, .int .i64 b4, .int .i64 x4, .int .i64 y4] (0, 0) _ 7 ?_ Tryz.underlying34 rfl (by kernel_rfl) ?_ ?_); exact rfl; exact K4.out; exact rfl) | ((with_reducible refine wpList_store_rowAs rfl 34 _ _ rfl ((w.heap.size + 2)) #[.slice u4 m4 d4, .int .i64 C4, .int .i64 T4, .int .i64 a4, .int .i64 b4, .int .i64 x4, .int .i64 y4] ?_ ?_ 34 #[.slice u m d, .int .i64 C, .int .i64 T, .int .i64 a, .int .i64 b, .int .i64 x, .int .i64 y] 7 ?_ (by kernel_rfl) rfl rfl (by simp [Value.oneCell']) ?_); exact rfl; exact rfl; exact K2.out))
            exact ⟨⟨k + 1, xv, ⟨r4, C4, T4, a4, b4, x4, y4⟩, true, u4, d4, 0, by omega, by go_num, rfl, rfl, rfl, (fun h => by cases h), HT.out, by show Mem _ _ _; simp only [Res.cells]; rw [← EM4.out]; exact M5.out.init, A5.out⟩, by simp [intOf]; omega⟩
          | true =>
            obtain rfl : fc = 0 := HFC.out
            by_cases hz : z < 0
            · replace HT := Lib.hid (HT.out (by trivial) (.inr hz))
              have bz : decide (z < 0) = true := decide_eq_true hz
              clear HKP hz HFN
              go_wp2_with (first | ((with_reducible refine wpList_load_rowG ?_ 34 _ rfl (X) ?_ 34 #[.slice u4 m4 d4, .int .i64 C4, .int .i64 T4, .int .i64 a4, .int .i64 b4, .int .i64 x4, .int .i64 y4] (0, 0) _ 7 ?_ Tryz.underlying34 rfl (by kernel_rfl) ?_ ?_); kernel_rfl; exact rfl; exact K4.out; exact rfl) | ((with_reducible refine wpList_load_rowG ?_ 34 _ rfl ((w.heap.size + 2)) ?_ 34 #[.slice u m d, .int .i64 C, .int .i64 T, .int .i64 a, .int .i64 b, .int .i64 x, .int .i64 y] (0, 0) _ 7 ?_ Tryz.underlying34 rfl (by kernel_rfl) ?_ ?_); kernel_rfl; exact rfl; exact K2.out; exact rfl))
              (with_reducible refine (HCMP.out _).mono ?_)
              rintro e w5 ⟨rfl, hb5⟩
              have M5 := Lib.hid (M4.out.call hb5)
              have A5 := Lib.hid ((A4.out.below hb5).setRow (w.heap.size + 2) (by omega) #[.slice u4 m4 d4, .int .i64 C4, .int .i64 T4, .int .i64 a4, .int .i64 b4, .int .i64 x4, .int .i64 y4])
              have hcell := HC.out w5 M5.out.below
              have K4 := Lib.hid (M5.out.heap 3 rfl)
              have K2 := Lib.hid (M5.out.heap 2 rfl)
              have M6 := Lib.hid (M5.out.setRow 2 (cs := #[.slice u4 m4 d4, .int .i64 C4, .int .i64 T4, .int .i64 a4, .int .i64 b4, .int .i64 x4, .int .i64 y4]) rfl)
              clear hb5 M4
              go_wp2_with (first | ((with_reducible refine wpList_load_rowAs rfl 34 _ rfl (X) ?_ 34 #[.slice u4 m4 d4, .int .i64 C4, .int .i64 T4, .int .i64 a4, .int .i64 b4, .int .i64 x4, .int .i64 y4] (0, 0) _ 7 ?_ Tryz.underlying34 rfl (by kernel_rfl) ?_ ?_); exact rfl; exact K4.out; exact rfl) | ((with_reducible refine wpList_store_rowAs rfl 34 _ _ rfl ((w.heap.size + 2)) #[.slice u4 m4 d4, .int .i64 C4, .int .i64 T4, .int .i64 a4, .int .i64 b4, .int .i64 x4, .int .i64 y4] ?_ ?_ 34 #[.slice u m d, .int .i64 C, .int .i64 T, .int .i64 a, .int .i64 b, .int .i64 x, .int .i64 y] 7 ?_ (by kernel_rfl) rfl rfl (by simp [Value.oneCell']) ?_); exact rfl; exact rfl; exact K2.out))
              exact ⟨⟨k + 1, xv, ⟨r4, C4, T4, a4, b4, x4, y4⟩, true, u4, d4, 0, by omega, by go_num, rfl, rfl, rfl, (fun h => by cases h), HT.out, by show Mem _ _ _; simp only [Res.cells]; rw [← EM4.out]; exact M6.out.init, A5.out⟩, by simp [intOf]; omega⟩
            · replace HKP := Lib.hid (HKP.out (by trivial) (fun h => h.elim (by simp) hz))
              have bz : decide (z < 0) = false := decide_eq_false hz
              clear HT hz
              go_wp2_with (first | ((with_reducible refine wpList_load_rowG ?_ 34 _ rfl (X) ?_ 34 #[.slice u4 m4 d4, .int .i64 C4, .int .i64 T4, .int .i64 a4, .int .i64 b4, .int .i64 x4, .int .i64 y4] (0, 0) _ 7 ?_ Tryz.underlying34 rfl (by kernel_rfl) ?_ ?_); kernel_rfl; exact rfl; exact K4.out; exact rfl) | ((with_reducible refine wpList_load_rowG ?_ 34 _ rfl ((w.heap.size + 2)) ?_ 34 #[.slice u m d, .int .i64 C, .int .i64 T, .int .i64 a, .int .i64 b, .int .i64 x, .int .i64 y] (0, 0) _ 7 ?_ Tryz.underlying34 rfl (by kernel_rfl) ?_ ?_); kernel_rfl; exact rfl; exact K2.out; exact rfl))
              (with_reducible refine (HCMP.out _).mono ?_)
              rintro e w5 ⟨rfl, hb5⟩
              have M5 := Lib.hid (M4.out.call hb5)
              have A5 := Lib.hid (A1.out.below hb5)
              clear hb5 M4
              go_wp2
              exact ⟨⟨k + 1, v', ⟨r, C, T, a, b, x, y⟩, true, u, d, 0, by omega, by go_num, rfl, rfl, rfl, (fun h => by cases h), HKP.out, by show Mem _ _ _; simp only [Res.cells]; rw [← EM.out]; exact M5.out.init, A5.out⟩, by simp [intOf]; omega⟩
        · have b7 : (c == 7) = false := beq_eq_false_iff_ne.2 h7
          have b0 : (c == 0) = false := beq_eq_false_iff_ne.2 h0
          have b0' : (c != 0) = true := by simpa using h0
          have hst := HST.out h7 h0
          obtain ⟨rfl, rfl, rfl⟩ : (0 : Int) = vo ∧ Res.zero = Ro ∧ c = co := by simpa using hst
          have K4 := Lib.hid (M4.out.heap 1 rfl)
          clear HT HKP HSK HST hst h7 h0
          go_wp2_with ((with_reducible refine wpList_store_rowAs rfl 34 _ _ rfl ((w.heap.size + 1)) #[.slice none 0 0, .int .i64 0, .int .i64 0, .int .i64 0, .int .i64 0, .int .i64 0, .int .i64 0] ?_ ?_ 34 #[.slice none 0 0, .int .i64 0, .int .i64 0, .int .i64 0, .int .i64 0, .int .i64 0, .int .i64 0] 7 ?_ (by kernel_rfl) rfl rfl (by simp [Value.oneCell']) ?_); exact rfl; exact rfl; exact K4.out)
          have MF := Lib.hid (M4.out.setRow 1 (cs := #[.slice none 0 0, .int .i64 0, .int .i64 0, .int .i64 0, .int .i64 0, .int .i64 0, .int .i64 0]) rfl)
          exact bodyPost_ret (results_tmp_row_tmp rfl _ _ (w.heap.size + 1) 34 #[.slice none 0 0, .int .i64 0, .int .i64 0, .int .i64 0, .int .i64 0, .int .i64 0, .int .i64 0] (0, 0) _ 7 _ _ rfl rfl rfl (MF.out.heap 1 rfl) Tryz.underlying34 rfl refResSize rfl) rfl ⟨none, 0, rfl, .inl rfl, MF.out.below⟩
      · have hxu := hS.2.apart
        have hstN := stab_and (stab_mem (w := w) (bs := [(w.heap.size, .cells #[.int .i64 p.mn, .int .i64 p.mx, .int .i64 p.tg, .int .i64 p.tl, .int .i64 p.wi, .int .i64 p.ho] 23), (w.heap.size + 1, .cells #[.slice none 0 0, .int .i64 0, .int .i64 0, .int .i64 0, .int .i64 0, .int .i64 0, .int .i64 0] 34), (w.heap.size + 2, .cells #[.slice u m d, .int .i64 C, .int .i64 T, .int .i64 a, .int .i64 b, .int .i64 x, .int .i64 y] 34), (wd.heap.size, .cells #[.slice none 0 0, .int .i64 0, .int .i64 0, .int .i64 0, .int .i64 0, .int .i64 0, .int .i64 0] 34)])) (stab_adf (A := w.heap.size + 3) (q := u) (l := r))
        go_wp2
        refine ⟨_, ⟨hS.1.alloc (.cells #[.slice none 0 0, .int .i64 0, .int .i64 0, .int .i64 0, .int .i64 0, .int .i64 0, .int .i64 0] 34), hS.2.below (below1 _ _)⟩, hstN, (by first | exact (fun _ h => ⟨h.1.init, h.2⟩) | exact .inr (fun _ h => ⟨h.1.init, h.2⟩)), ?_⟩
        obtain ⟨X, hX⟩ : ∃ X, wd.heap.size = X := ⟨_, rfl⟩
        rw [hX] at hstN hxu ⊢
        have HXU := Lib.hid hxu
        clear hS hX hst hxu
        try simp only [act_norm]
        have hst := hstN
        clear hstN
        refine wpAnyE_one 10 rfl (by kernel_rfl) rfl (fun wd hS => ?_)
        go_wp2_with fail
        (with_reducible refine (G2.out wd (HS.out.below hS.1.below)).mono ?_)
        rintro e w4 ⟨u4, d4, rfl, hA4, hb4⟩
        have hlo : w.heap.size + 3 ≤ wd.heap.size := by have := hS.1.lt (i := 2) rfl; omega
        have hXl := hS.1.lt (i := 3) rfl
        have HXV : Hid ((∀ W, Advs W u4 r4) ∨ (∀ ad, u4 = some ad → ad.block ≠ X)) := .inr fun ad e => by have := hA4.2 ad e; omega
        have hstN := stab_and hst (stab_adf (A := w.heap.size + 3) (q := u4) (l := r4))
        refine ⟨_, ⟨hst _ _ hS hb4, hA4.wide hlo⟩, hstN, (by first | exact (fun _ h => h.1) | exact .inr (fun _ h => h.1)), ?_⟩
        try simp only [act_norm]
        clear hS hA4 hb4 hst hlo hXl
        have hst := hstN
        clear hstN
        refine wpAnyE_take 11 rfl (by kernel_rfl) (by kernel_rfl) (by kernel_rfl) (fun _ _ _ h => h) hst (EffB.pure rfl (fun _ => rfl)) (.inr (EffB.pure rfl (fun _ => rfl))) ?_
        simp only [act_norm]
        refine wpAnyE_take 12 (v := .agg #[.slice u4 m4 d4, .int .i64 C4, .int .i64 T4, .int .i64 a4, .int .i64 b4, .int .i64 x4, .int .i64 y4]) rfl (by kernel_rfl) (by kernel_rfl) (by kernel_rfl) (fun _ _ _ h => h) hst (EffB.run rfl rfl (fun wd hS => ?_)) (.inr (EffB.run rfl rfl (fun wd hS => ?_))) ?_
        · (go_wp2; exact ⟨rfl, Below.refl _ _⟩)
        · (go_wp2; exact ⟨rfl, Below.refl _ _⟩)
        simp only [act_norm]
        refine wpAnyE_take 13 (v := .int .i64 c) rfl (by kernel_rfl) (by kernel_rfl) (by kernel_rfl) (fun _ _ _ h => h) hst (EffB.run rfl rfl (fun wd hS => ?_)) (.inr (EffB.run rfl rfl (fun wd hS => ?_))) ?_
        · (go_wp2; exact ⟨rfl, Below.refl _ _⟩)
        · (go_wp2; exact ⟨rfl, Below.refl _ _⟩)
        simp only [act_norm]
        refine wpAnyE_one 15 rfl (by kernel_rfl) rfl (fun wd hS => ?_)
        have hstN := stab_and (stab_and (stab_mem (w := w) (bs := [(w.heap.size, .cells #[.int .i64 p.mn, .int .i64 p.mx, .int .i64 p.tg, .int .i64 p.tl, .int .i64 p.wi, .int .i64 p.ho] 23), (w.heap.size + 1, .cells #[.slice none 0 0, .int .i64 0, .int .i64 0, .int .i64 0, .int .i64 0, .int .i64 0, .int .i64 0] 34), (w.heap.size + 2, .cells #[.slice u m d, .int .i64 C, .int .i64 T, .int .i64 a, .int .i64 b, .int .i64 x, .int .i64 y] 34), (X, .cells #[.slice u4 m4 d4, .int .i64 C4, .int .i64 T4, .int .i64 a4, .int .i64 b4, .int .i64 x4, .int .i64 y4] 34)])) (stab_adf (A := w.heap.size + 3) (q := u) (l := r))) (stab_adf (A := w.heap.size + 3) (q := u4) (l := r4))
        refine wp_store_row 34 _ _ rfl X #[.slice u4 m4 d4, .int .i64 C4, .int .i64 T4, .int .i64 a4, .int .i64 b4, .int .i64 x4, .int .i64 y4] rfl rfl 34 #[.slice none 0 0, .int .i64 0, .int .i64 0, .int .i64 0, .int .i64 0, .int .i64 0, .int .i64 0] (hS.1.1.heap 3 rfl) refResSize rfl (by simp [Value.oneCell']) ?_
        refine ⟨_, ⟨⟨hS.1.1.setRow 3 rfl, hS.1.2.setRowX HXU.out _⟩, hS.2.setRowX HXV.out _⟩, hstN, .inl (by decide), ?_⟩
        try simp only [act_norm]
        clear hS hst
        have hst := hstN
        clear hstN
        refine wpAnyE_take 16 rfl (by kernel_rfl) (by kernel_rfl) (by kernel_rfl) (fun _ _ _ h => h) hst (EffB.pure rfl (fun _ => rfl)) (.inr (EffB.pure rfl (fun _ => rfl))) ?_
        simp only [act_norm]
        refine wpAnyE_done (by kernel_rfl) (fun wd hS => ?_) _
        have M4 := Lib.hid hS.1.1
        have A1 := Lib.hid hS.1.2
        have A4 := Lib.hid hS.2
        clear hS hst
        by_cases h7 : c = 7
        · subst h7
          have HK2 := Lib.hid (HSK.out rfl)
          clear HT HKP HSK HST
          go_wp2
          exact ⟨⟨k + 1, v', ⟨r, C, T, a, b, x, y⟩, f', u, d, fc, by omega, by go_num, rfl, rfl, HFC, HFN.out, HK2.out, by show Mem _ _ _; simp only [Res.cells]; rw [← EM.out]; exact M4.out.init, A1.out⟩, by simp [intOf]; omega⟩
        by_cases h0 : c = 0
        · subst h0
          have hcmp := fun W : World => ref44_cmp u4 u m4 d4 m d C4 T4 a4 b4 x4 y4 C T a b x y W
          have ez0 : (⟨r4, C4, T4, a4, b4, x4, y4⟩ : Res).cmp ⟨r, C, T, a, b, x, y⟩ = Tri.cmp C4 T4 x4 y4 C T x y := rfl
          obtain ⟨z, ez⟩ : ∃ z, z = Tri.cmp C4 T4 x4 y4 C T x y := ⟨_, rfl⟩
          rw [← ez] at ez0
          simp only [← ez] at hcmp
          simp only [ez0] at HT HKP
          have HCMP := Lib.hid hcmp
          have K4 := Lib.hid (M4.out.heap 3 rfl)
          have K2 := Lib.hid (M4.out.heap 2 rfl)
          clear ez hcmp ez0 HSK HST
          cases f' with
          | false =>
            obtain rfl : fc = 5 := HFC.out
            replace HT := Lib.hid (HT.out (by trivial) (.inl (by trivial)))
            have hcell := HC.out wd M4.out.below
            have M5 := Lib.hid (M4.out.setRow 2 (cs := #[.slice u4 m4 d4, .int .i64 C4, .int .i64 T4, .int .i64 a4, .int .i64 b4, .int .i64 x4, .int .i64 y4]) rfl)
            have A5 := Lib.hid (A4.out.setRow (w.heap.size + 2) (by omega) #[.slice u4 m4 d4, .int .i64 C4, .int .i64 T4, .int .i64 a4, .int .i64 b4, .int .i64 x4, .int .i64 y4])
            clear HKP HCMP HFN
            go_wp2_with (first | ((with_reducible refine wpList_load_rowAs rfl 34 _ rfl (X) ?_ 34 #[.slice u4 m4 d4, .int .i64 C4, .int .i64 T4, .int .i64 a4, .int .i64 b4, .int .i64 x4, .int .i64 y4] (0, 0) _ 7 ?_ Tryz.underlying34 rfl (by kernel_rfl) ?_ ?_); exact rfl; exact K4.out; exact rfl) | ((with_reducible refine wpList_store_rowAs rfl 34 _ _ rfl ((w.heap.size + 2)) #[.slice u4 m4 d4, .int .i64 C4, .int .i64 T4, .int .i64 a4, .int .i64 b4, .int .i64 x4, .int .i64 y4] ?_ ?_ 34 #[.slice u m d, .int .i64 C, .int .i64 T, .int .i64 a, .int .i64 b, .int .i64 x, .int .i64 y] 7 ?_ (by kernel_rfl) rfl rfl (by simp [Value.oneCell']) ?_); exact rfl; exact rfl; exact K2.out))
            exact ⟨⟨k + 1, xv, ⟨r4, C4, T4, a4, b4, x4, y4⟩, true, u4, d4, 0, by omega, by go_num, rfl, rfl, rfl, (fun h => by cases h), HT.out, by show Mem _ _ _; simp only [Res.cells]; rw [← EM4.out]; exact M5.out.init, A5.out⟩, by simp [intOf]; omega⟩
          | true =>
            obtain rfl : fc = 0 := HFC.out
            by_cases hz : z < 0
            · replace HT := Lib.hid (HT.out (by trivial) (.inr hz))
              have bz : decide (z < 0) = true := decide_eq_true hz
              clear HKP hz HFN
              go_wp2_with (first | ((with_reducible refine wpList_load_rowG ?_ 34 _ rfl (X) ?_ 34 #[.slice u4 m4 d4, .int .i64 C4, .int .i64 T4, .int .i64 a4, .int .i64 b4, .int .i64 x4, .int .i64 y4] (0, 0) _ 7 ?_ Tryz.underlying34 rfl (by kernel_rfl) ?_ ?_); kernel_rfl; exact rfl; exact K4.out; exact rfl) | ((with_reducible refine wpList_load_rowG ?_ 34 _ rfl ((w.heap.size + 2)) ?_ 34 #[.slice u m d, .int .i64 C, .int .i64 T, .int .i64 a, .int .i64 b, .int .i64 x, .int .i64 y] (0, 0) _ 7 ?_ Tryz.underlying34 rfl (by kernel_rfl) ?_ ?_); kernel_rfl; exact rfl; exact K2.out; exact rfl))
              (with_reducible refine (HCMP.out _).mono ?_)
              rintro e w5 ⟨rfl, hb5⟩
              have M5 := Lib.hid (M4.out.call hb5)
              have A5 := Lib.hid ((A4.out.below hb5).setRow (w.heap.size + 2) (by omega) #[.slice u4 m4 d4, .int .i64 C4, .int .i64 T4, .int .i64 a4, .int .i64 b4, .int .i64 x4, .int .i64 y4])
              have hcell := HC.out w5 M5.out.below
              have K4 := Lib.hid (M5.out.heap 3 rfl)
              have K2 := Lib.hid (M5.out.heap 2 rfl)
              have M6 := Lib.hid (M5.out.setRow 2 (cs := #[.slice u4 m4 d4, .int .i64 C4, .int .i64 T4, .int .i64 a4, .int .i64 b4, .int .i64 x4, .int .i64 y4]) rfl)
              clear hb5 M4
              go_wp2_with (first | ((with_reducible refine wpList_load_rowAs rfl 34 _ rfl (X) ?_ 34 #[.slice u4 m4 d4, .int .i64 C4, .int .i64 T4, .int .i64 a4, .int .i64 b4, .int .i64 x4, .int .i64 y4] (0, 0) _ 7 ?_ Tryz.underlying34 rfl (by kernel_rfl) ?_ ?_); exact rfl; exact K4.out; exact rfl) | ((with_reducible refine wpList_store_rowAs rfl 34 _ _ rfl ((w.heap.size + 2)) #[.slice u4 m4 d4, .int .i64 C4, .int .i64 T4, .int .i64 a4, .int .i64 b4, .int .i64 x4, .int .i64 y4] ?_ ?_ 34 #[.slice u m d, .int .i64 C, .int .i64 T, .int .i64 a, .int .i64 b, .int .i64 x, .int .i64 y] 7 ?_ (by kernel_rfl) rfl rfl (by simp [Value.oneCell']) ?_); exact rfl; exact rfl; exact K2.out))
              exact ⟨⟨k + 1, xv, ⟨r4, C4, T4, a4, b4, x4, y4⟩, true, u4, d4, 0, by omega, by go_num, rfl, rfl, rfl, (fun h => by cases h), HT.out, by show Mem _ _ _; simp only [Res.cells]; rw [← EM4.out]; exact M6.out.init, A5.out⟩, by simp [intOf]; omega⟩
            · replace HKP := Lib.hid (HKP.out (by trivial) (fun h => h.elim (by simp) hz))
              have bz : decide (z < 0) = false := decide_eq_false hz
              clear HT hz
              go_wp2_with (first | ((with_reducible refine wpList_load_rowG ?_ 34 _ rfl (X) ?_ 34 #[.slice u4 m4 d4, .int .i64 C4, .int .i64 T4, .int .i64 a4, .int .i64 b4, .int .i64 x4, .int .i64 y4] (0, 0) _ 7 ?_ Tryz.underlying34 rfl (by kernel_rfl) ?_ ?_); kernel_rfl; exact rfl; exact K4.out; exact rfl) | ((with_reducible refine wpList_load_rowG ?_ 34 _ rfl ((w.heap.size + 2)) ?_ 34 #[.slice u m d, .int .i64 C, .int .i64 T, .int .i64 a, .int .i64 b, .int .i64 x, .int .i64 y] (0, 0) _ 7 ?_ Tryz.underlying34 rfl (by kernel_rfl) ?_ ?_); kernel_rfl; exact rfl; exact K2.out; exact rfl))
              (with_reducible refine (HCMP.out _).mono ?_)
              rintro e w5 ⟨rfl, hb5⟩
              have M5 := Lib.hid (M4.out.call hb5)
              have A5 := Lib.hid (A1.out.below hb5)
              clear hb5 M4
              go_wp2
              exact ⟨⟨k + 1, v', ⟨r, C, T, a, b, x, y⟩, true, u, d, 0, by omega, by go_num, rfl, rfl, rfl, (fun h => by cases h), HKP.out, by show Mem _ _ _; simp only [Res.cells]; rw [← EM.out]; exact M5.out.init, A5.out⟩, by simp [intOf]; omega⟩
        · have b7 : (c == 7) = false := beq_eq_false_iff_ne.2 h7
          have b0 : (c == 0) = false := beq_eq_false_iff_ne.2 h0
          have b0' : (c != 0) = true := by simpa using h0
          have hst := HST.out h7 h0
          obtain ⟨rfl, rfl, rfl⟩ : (0 : Int) = vo ∧ Res.zero = Ro ∧ c = co := by simpa using hst
          have K4 := Lib.hid (M4.out.heap 1 rfl)
          clear HT HKP HSK HST hst h7 h0
          go_wp2_with ((with_reducible refine wpList_store_rowAs rfl 34 _ _ rfl ((w.heap.size + 1)) #[.slice none 0 0, .int .i64 0, .int .i64 0, .int .i64 0, .int .i64 0, .int .i64 0, .int .i64 0] ?_ ?_ 34 #[.slice none 0 0, .int .i64 0, .int .i64 0, .int .i64 0, .int .i64 0, .int .i64 0, .int .i64 0] 7 ?_ (by kernel_rfl) rfl rfl (by simp [Value.oneCell']) ?_); exact rfl; exact rfl; exact K4.out)
          have MF := Lib.hid (M4.out.setRow 1 (cs := #[.slice none 0 0, .int .i64 0, .int .i64 0, .int .i64 0, .int .i64 0, .int .i64 0, .int .i64 0]) rfl)
          exact bodyPost_ret (results_tmp_row_tmp rfl _ _ (w.heap.size + 1) 34 #[.slice none 0 0, .int .i64 0, .int .i64 0, .int .i64 0, .int .i64 0, .int .i64 0, .int .i64 0] (0, 0) _ 7 _ _ rfl rfl rfl (MF.out.heap 1 rfl) Tryz.underlying34 rfl refResSize rfl) rfl ⟨none, 0, rfl, .inl rfl, MF.out.below⟩
    · have hkn' : ¬ (k : Int) < (n : Int) := by omega
      have M1 := Lib.hid hM
      have A1 := Lib.hid hA
      have hend : ((v', (⟨r, C, T, a, b, x, y⟩ : Res), fc) : Int × Res × Int) = (vo, Ro, co) := by
        have hfc := HFC
        cases f' with
        | false =>
          obtain ⟨e1, e2⟩ := HFN.out rfl
          rw [← hgo, Bst.go_none hkn, e1, e2]
          exact congrArg _ (congrArg _ hfc.out)
        | true =>
          rw [← hgo, Bst.go_yes hkn]
          exact congrArg _ (congrArg _ hfc.out)
      obtain ⟨rfl, rfl, rfl⟩ : v' = vo ∧ (⟨r, C, T, a, b, x, y⟩ : Res) = Ro ∧ fc = co := by simpa using hend
      clear hgo hM hA hend HO HFN HFC
      go_wp2_with fail
      have hst := stab_and (stab_mem (w := w) (bs := [(w.heap.size, .cells #[.int .i64 p.mn, .int .i64 p.mx, .int .i64 p.tg, .int .i64 p.tl, .int .i64 p.wi, .int .i64 p.ho] 23), (w.heap.size + 1, .cells #[.slice none 0 0, .int .i64 0, .int .i64 0, .int .i64 0, .int .i64 0, .int .i64 0, .int .i64 0] 34), (w.heap.size + 2, .cells #[.slice u m d, .int .i64 C, .int .i64 T, .int .i64 a, .int .i64 b, .int .i64 x, .int .i64 y] 34)])) (stab_adf (A := w.heap.size + 3) (q := u) (l := r))
      refine wp_region_E mixed [4] hst ⟨M1.out.drewN 1, A1.out.below (below_drew (Below.refl _ _))⟩ ?_
      refine wpAnyE_take 0 rfl (by kernel_rfl) (by kernel_rfl) (by kernel_rfl) (fun _ _ _ h => h) hst (EffB.pure rfl (fun _ => rfl)) (.inr (EffB.pure rfl (fun _ => rfl))) ?_
      simp only [act_norm]
      refine wpAnyE_take 1 (v := .agg #[.slice u m d, .int .i64 C, .int .i64 T, .int .i64 a, .int .i64 b, .int .i64 x, .int .i64 y]) rfl (by kernel_rfl) (by kernel_rfl) (by kernel_rfl) (fun _ _ _ h => h) hst (EffB.run rfl rfl (fun wd hS => ?_)) (.inl (by kernel_rfl)) ?_
      · exact wp_load_row 34 _ rfl (w.heap.size + 2) rfl 34 #[.slice u m d, .int .i64 C, .int .i64 T, .int .i64 a, .int .i64 b, .int .i64 x, .int .i64 y] (0, 0) _ (hS.1.heap 2 rfl) Tryz.underlying34 rfl (by kernel_rfl) ⟨rfl, Below.refl _ _⟩
      simp only [act_norm]
      refine wpAnyE_take 2 rfl (by kernel_rfl) (by kernel_rfl) (by kernel_rfl) (fun _ _ _ h => h) hst (EffB.pure rfl (fun _ => rfl)) (.inr (EffB.pure rfl (fun _ => rfl))) ?_
      simp only [act_norm]
      refine wpAnyE_take 3 rfl (by kernel_rfl) (by kernel_rfl) (by kernel_rfl) (fun _ _ _ h => h) hst (EffB.pure rfl (fun _ => rfl)) (.inr (EffB.pure rfl (fun _ => rfl))) ?_
      simp only [act_norm]
      refine wpAnyE_one 4 rfl (by kernel_rfl) rfl (fun wd hS => ?_)
      have hst2 := stab_and (stab_mem (w := w) (bs := [(w.heap.size, .cells #[.int .i64 p.mn, .int .i64 p.mx, .int .i64 p.tg, .int .i64 p.tl, .int .i64 p.wi, .int .i64 p.ho] 23), (w.heap.size + 1, .cells #[.slice u m d, .int .i64 C, .int .i64 T, .int .i64 a, .int .i64 b, .int .i64 x, .int .i64 y] 34), (w.heap.size + 2, .cells #[.slice u m d, .int .i64 C, .int .i64 T, .int .i64 a, .int .i64 b, .int .i64 x, .int .i64 y] 34)])) (stab_adf (A := w.heap.size + 3) (q := u) (l := r))
      refine wp_store_row 34 _ _ rfl (w.heap.size + 1) #[.slice u m d, .int .i64 C, .int .i64 T, .int .i64 a, .int .i64 b, .int .i64 x, .int .i64 y] rfl rfl 34 #[.slice none 0 0, .int .i64 0, .int .i64 0, .int .i64 0, .int .i64 0, .int .i64 0, .int .i64 0] (hS.1.heap 1 rfl) refResSize rfl (by simp [Value.oneCell']) ?_
      refine ⟨_, ⟨hS.1.setRow 1 rfl, hS.2.setRow (w.heap.size + 1) (by omega) _⟩, hst2, .inl (by decide), ?_⟩
      try simp only [act_norm]
      clear hS hst
      have hst := hst2
      refine wpAnyE_take 5 rfl (by kernel_rfl) (by kernel_rfl) (by kernel_rfl) (fun _ _ _ h => h) hst (EffB.pure rfl (fun _ => rfl)) (.inr (EffB.pure rfl (fun _ => rfl))) ?_
      simp only [act_norm]
      refine wpAnyE_done (by kernel_rfl) (fun wd hS => ?_) _
      have MF := Lib.hid hS.1
      have AF := Lib.hid hS.2
      clear hS hst hst2
      go_wp2
      exact bodyPost_ret (results_tmp_row_tmp rfl _ _ (w.heap.size + 1) 34 #[.slice u m d, .int .i64 C, .int .i64 T, .int .i64 a, .int .i64 b, .int .i64 x, .int .i64 y] (0, 0) _ 7 _ _ rfl rfl rfl (MF.out.heap 1 rfl) Tryz.underlying34 rfl refResSize rfl) rfl ⟨u, ⟨d, by simp only [Res.cells]; rw [← EM.out]; rfl⟩, AF.out.1, MF.out.below⟩
end Go.Proofs.YtildjnibdappnaaGreat
