/- Layer 45: the best of some values. -/
import Derived.Test.YtildjnibdappnaaGreatJTuneB
import Derived.Test.YtildjnibdappnaaGreatJTune
import Derived.Test.YtildjnibdappnaaGreatJTriOrd
namespace Go.Proofs.YtildjnibdappnaaGreat
open Go.ChangeShapes Go.WideShapes Go.ChangeAt Go.RowKit

theorem Ints.at45 {w : World} {p : Option Addr} {l : List Int} (h : Ints .i64 w p l) (k : Nat) (hk : k < l.length) : ∃ b off, p = some ⟨b, off, none⟩ ∧ b < w.heap.size ∧ w.cell? ⟨b, off + k, none⟩ = some (.int .i64 (l[k]?.getD 0)) := by
  rcases h with h | ⟨b, off, hp, hb, hc⟩
  · omega
  · exact ⟨b, off, hp, hb, hc k (by omega)⟩
theorem Pol.with_In {p : Pol} (h : p.In) (f : Int) {v : Int} (hv : I64 v) : (Pol.with p f v).In := by
  obtain ⟨a, b, c, d, e, g⟩ := h
  unfold Pol.with
  split
  · exact ⟨hv, b, c, d, e, g⟩
  split
  · exact ⟨a, hv, c, d, e, g⟩
  split
  · exact ⟨a, b, hv, d, e, g⟩
  split
  · exact ⟨a, b, c, hv, e, g⟩
  split
  · exact ⟨a, b, c, d, hv, g⟩
  split
  · exact ⟨a, b, c, d, e, hv⟩
  · exact ⟨a, b, c, d, e, g⟩

/-- What is told of a policy. -/
structure Res where
  r : List Adv
  C : Int
  T : Int
  a : Int
  b : Int
  x : Int
  y : Int
def Res.zero : Res := ⟨[], 0, 0, 0, 0, 0, 0⟩
def Res.cells (R : Res) (u : Option Addr) (d : Nat) : Array Value := #[.slice u R.r.length d, .int .i64 R.C, .int .i64 R.T, .int .i64 R.a, .int .i64 R.b, .int .i64 R.x, .int .i64 R.y]
def Res.cmp (R S : Res) : Int := Tri.cmp R.C R.T R.x R.y S.C S.T S.x S.y
def Res.of (p : Pol) (r : List Adv) : Res := ⟨r, (Adv.changes (Adv.rep r) r.length : Nat), ((Adv.turns (Adv.rep r) r.length).1 : Nat), Tri.lo (Adv.rep r) r.length, Tri.hi (Adv.rep r) r.length, Tri.sp (Tri.left p.tg r) r.length, Tri.sh (Tri.left p.tg r) r.length⟩
def Run.code (p : Pol) (sa ro : Int) : Int := if p.ok = true then (if sa < 1 ∨ 256 < sa ∨ ro < 1 ∨ 64 < ro then 1 else 0) else 7
def Run.res (p : Pol) (l : List Samp) (sa ro : Int) : Res := if Run.code p sa ro = 0 then Res.of p (Fol.of p l sa ro) else Res.zero
theorem Run.code_pol {p : Pol} (h : p.ok = false) (sa ro : Int) : Run.code p sa ro = 7 := by unfold Run.code; rw [if_neg (by rw [h]; simp)]
theorem Run.code_arg {p : Pol} (h : p.ok = true) {sa ro : Int} (h2 : sa < 1 ∨ 256 < sa ∨ ro < 1 ∨ 64 < ro) : Run.code p sa ro = 1 := by unfold Run.code; rw [if_pos h, if_pos h2]
theorem Run.code_some {p : Pol} (h : p.ok = true) {sa ro : Int} (h2 : ¬ (sa < 1 ∨ 256 < sa ∨ ro < 1 ∨ 64 < ro)) : Run.code p sa ro = 0 := by unfold Run.code; rw [if_pos h, if_neg h2]
theorem Run.res_no {p : Pol} {l : List Samp} {sa ro : Int} (h : Run.code p sa ro ≠ 0) : Run.res p l sa ro = Res.zero := if_neg h
theorem Run.res_yes {p : Pol} {l : List Samp} {sa ro : Int} (h : Run.code p sa ro = 0) : Run.res p l sa ro = Res.of p (Fol.of p l sa ro) := if_pos h

theorem trial_run_res (p : Pol) (hp : p.In) (q : Option Addr) (cap : Nat) (l : List Samp) (hl : ∀ a ∈ l, a.In) (hb : l.length ≤ 1000) (sa ro : Int) (w : World) (hs : Samps w q l) :
    Calls Tryz.prog 7 #[.agg #[.int .i64 p.mn, .int .i64 p.mx, .int .i64 p.tg, .int .i64 p.tl, .int .i64 p.wi, .int .i64 p.ho], .slice q l.length cap, .int .i64 sa, .int .i64 ro] w fun e w' => ∃ (u : Option Addr) (d : Nat), e = .returned (.tuple #[.agg ((Run.res p l sa ro).cells u d), .int .i64 (Run.code p sa ro)]) ∧ Adf w.heap.size w' u (Run.res p l sa ro).r ∧ Below w.heap.size w w' := by
  cases hok : p.ok with
  | false =>
    have e1 := Run.code_pol hok sa ro
    rw [Run.res_no (l := l) (by rw [e1]; decide), e1]
    exact (trial_run_pol p hok q l.length cap sa ro w).mono fun e w' ⟨a, b⟩ => ⟨none, 0, a, Adf.none _ _, b⟩
  | true =>
    by_cases hbad : sa < 1 ∨ 256 < sa ∨ ro < 1 ∨ 64 < ro
    · have e1 := Run.code_arg hok hbad
      rw [Run.res_no (l := l) (by rw [e1]; decide), e1]
      exact (trial_run_arg p hok q l.length cap sa ro hbad w).mono fun e w' ⟨a, b⟩ => ⟨none, 0, a, Adf.none _ _, b⟩
    · have e1 := Run.code_some hok hbad
      rw [Run.res_yes (l := l) e1, e1]
      exact (trial_run_own p hp hok q cap l hl hb sa ro (by omega) (by omega) (by omega) (by omega) w hs).mono fun e w' ⟨u, d, a, b, c⟩ => ⟨u, d, a, b, c⟩
theorem run45_res (p : Pol) (hp : p.In) (q : Option Addr) (cap : Nat) (l : List Samp) (hl : ∀ a ∈ l, a.In) (hb : l.length ≤ 1000) (sa ro : Int) (w : World) (hs : Samps w q l) :
    Calls Tryz.prog 18 #[.agg #[.int .i64 p.mn, .int .i64 p.mx, .int .i64 p.tg, .int .i64 p.tl, .int .i64 p.wi, .int .i64 p.ho], .slice q l.length cap, .int .i64 sa, .int .i64 ro] w fun e w' => ∃ (u : Option Addr) (d : Nat), e = .returned (.tuple #[.agg ((Run.res p l sa ro).cells u d), .int .i64 (Run.code p sa ro)]) ∧ Adf w.heap.size w' u (Run.res p l sa ro).r ∧ Below w.heap.size w w' := by
  cases hok : p.ok with
  | false =>
    have e1 := Run.code_pol hok sa ro
    rw [Run.res_no (l := l) (by rw [e1]; decide), e1]
    exact (run45_pol p hok q l.length cap sa ro w).mono fun e w' ⟨a, b⟩ => ⟨none, 0, a, Adf.none _ _, b⟩
  | true =>
    by_cases hbad : sa < 1 ∨ 256 < sa ∨ ro < 1 ∨ 64 < ro
    · have e1 := Run.code_arg hok hbad
      rw [Run.res_no (l := l) (by rw [e1]; decide), e1]
      exact (run45_arg p hok q l.length cap sa ro hbad w).mono fun e w' ⟨a, b⟩ => ⟨none, 0, a, Adf.none _ _, b⟩
    · have e1 := Run.code_some hok hbad
      rw [Run.res_yes (l := l) e1, e1]
      exact (run45_own p hp hok q cap l hl hb sa ro (by omega) (by omega) (by omega) (by omega) w hs).mono fun e w' ⟨u, d, a, b, c⟩ => ⟨u, d, a, b, c⟩

/-- The best of those that are left. -/
def Bst.go (V : Nat → Int) (c : Nat → Int) (S : Nat → Res) : Nat → Nat → Int → Res → Bool → Int × Res × Int
  | _, 0, v, R, f => if f = true then (v, R, 0) else (0, Res.zero, 5)
  | i, k + 1, v, R, f => if c i = 7 then Bst.go V c S (i + 1) k v R f else if c i = 0 then (if f = false ∨ (S i).cmp R < 0 then Bst.go V c S (i + 1) k (V i) (S i) true else Bst.go V c S (i + 1) k v R f) else (0, Res.zero, c i)
section
variable {V c : Nat → Int} {S : Nat → Res} {i n : Nat} {v : Int} {R : Res} {f : Bool}
theorem Bst.go_skip (hi : i < n) (h : c i = 7) : Bst.go V c S i (n - i) v R f = Bst.go V c S (i + 1) (n - (i + 1)) v R f := by
  rw [show n - i = (n - (i + 1)) + 1 by omega, Bst.go, if_pos h]
theorem Bst.go_stop (hi : i < n) (h : c i ≠ 7) (h2 : c i ≠ 0) : Bst.go V c S i (n - i) v R f = (0, Res.zero, c i) := by
  rw [show n - i = (n - (i + 1)) + 1 by omega, Bst.go, if_neg h, if_neg h2]
theorem Bst.go_take (hi : i < n) (h : c i = 0) (h2 : f = false ∨ (S i).cmp R < 0) : Bst.go V c S i (n - i) v R f = Bst.go V c S (i + 1) (n - (i + 1)) (V i) (S i) true := by
  rw [show n - i = (n - (i + 1)) + 1 by omega, Bst.go, if_neg (by omega), if_pos h, if_pos h2]
theorem Bst.go_keep (hi : i < n) (h : c i = 0) (h2 : ¬ (f = false ∨ (S i).cmp R < 0)) : Bst.go V c S i (n - i) v R f = Bst.go V c S (i + 1) (n - (i + 1)) v R f := by
  rw [show n - i = (n - (i + 1)) + 1 by omega, Bst.go, if_neg (by omega), if_pos h, if_neg h2]
theorem Bst.go_yes (hi : ¬ i < n) : Bst.go V c S i (n - i) v R true = (v, R, 0) := by rw [show n - i = 0 by omega]; rfl
theorem Bst.go_none (hi : ¬ i < n) : Bst.go V c S i (n - i) v R false = (0, Res.zero, 5) := by rw [show n - i = 0 by omega]; rfl
end
theorem results_tmp_row_tmp {P : Program} {fn : Func} {s p u : Tmp} {ty : TypeId} (h : fn.results = #[.tmp s, .cell p ty, .tmp u]) (tmps : Array Value) (w : World) (g : Nat) (t : TypeId) (cs : Array Value) (fr : Nat × Nat) (d : TypeDesc) (n : Nat) (z x : Value)
    (hz : tmps.getD s undef = z) (hx : tmps.getD u undef = x) (hp : tmps.getD p undef = .pointer (some ⟨g, 0, none⟩)) (hg : w.heap[g]? = some (.cells cs t fr))
    (hu : P.underlying ty = some d) (hd : (match d with | .struct _ | .array _ _ => true | _ => false) = true) (hi : (P.info? ty).map (·.size) = some n) (hn : cs.size = n) :
    (results fn tmps).run P w = .ok (.tuple #[z, .agg cs, x]) w := by
  subst hx
  subst hz
  have hp' : tmps[p]?.getD undef = .pointer (some ⟨g, 0, none⟩) := by simpa using hp
  simp [results, h, hp', asAddr, run_loadVar_row w g t ty cs fr d hg hu hd (by rw [hn]; exact hi)]

set_option maxHeartbeats 4000000 in
set_option maxRecDepth 100000 in
theorem tune_best (p : Pol) (hp : p.In) (fld : Int) (qv : Option Addr) (capv : Nat) (vals : List Int) (hv : ∀ x ∈ vals, I64 x) (hbv : vals.length ≤ 100000) (q : Option Addr) (cap : Nat) (l : List Samp) (hl : ∀ a ∈ l, a.In) (hb : l.length ≤ 1000) (sa ro : Int) (w : World) (hsv : Ints .i64 w qv vals) (hs : Samps w q l)
    (vo : Int) (Ro : Res) (co : Int) (hout : Bst.go (fun i => vals[i]?.getD 0) (fun i => Run.code (Pol.with p fld (vals[i]?.getD 0)) sa ro) (fun i => Run.res (Pol.with p fld (vals[i]?.getD 0)) l sa ro) 0 (vals.length - 0) 0 Res.zero false = (vo, Ro, co)) :
    Calls Tryz.prog 13 #[.agg #[.int .i64 p.mn, .int .i64 p.mx, .int .i64 p.tg, .int .i64 p.tl, .int .i64 p.wi, .int .i64 p.ho], .int .i64 fld, .slice qv vals.length capv, .slice q l.length cap, .int .i64 sa, .int .i64 ro] w fun e w' => ∃ (u : Option Addr) (d : Nat), e = .returned (.tuple #[.int .i64 vo, .agg (Ro.cells u d), .int .i64 co]) ∧ Advs w' u Ro.r ∧ Below w.heap.size w w' := by
  have f1 := fun (i : Nat) (W : World) => tune_with p fld (vals[i]?.getD 0) W
  have hin : ∀ i, i < vals.length → I64 (vals[i]?.getD 0) := fun i hi => by rw [List.getElem?_eq_getElem hi]; exact hv _ (List.getElem_mem _)
  have f2 := fun (i : Nat) (hi : i < vals.length) (W : World) (h : Samps W q l) => trial_run_res (Pol.with p fld (vals[i]?.getD 0)) (Pol.with_In hp fld (hin i hi)) q cap l hl hb sa ro W h
  have hcv := fun (W : World) (h : Below w.heap.size w W) (k : Nat) (hk : k < vals.length) => Ints.at45 (hsv.below h) k hk
  obtain ⟨Q, eQ⟩ : ∃ Q : Nat → Pol, Q = fun i => Pol.with p fld (vals[i]?.getD 0) := ⟨_, rfl⟩
  have hQ : ∀ i, Pol.with p fld (vals[i]?.getD 0) = Q i := fun i => by rw [eQ]
  obtain ⟨V, eV⟩ : ∃ V : Nat → Int, V = fun i => vals[i]?.getD 0 := ⟨_, rfl⟩
  have hV : ∀ i, vals[i]?.getD 0 = V i := fun i => by rw [eV]
  obtain ⟨cc, ec⟩ : ∃ cc : Nat → Int, cc = fun i => Run.code (Pol.with p fld (vals[i]?.getD 0)) sa ro := ⟨_, rfl⟩
  have hcc : ∀ i, Run.code (Q i) sa ro = cc i := fun i => by rw [ec, eQ]
  obtain ⟨SS, eS⟩ : ∃ SS : Nat → Res, SS = fun i => Run.res (Pol.with p fld (vals[i]?.getD 0)) l sa ro := ⟨_, rfl⟩
  have hSS : ∀ i, Run.res (Q i) l sa ro = SS i := fun i => by rw [eS, eQ]
  rw [← eV, ← ec, ← eS] at hout
  simp only [hQ, hcc, hSS] at f1 f2
  simp only [hV] at f1 hcv
  have F1 := Lib.hid f1
  have F2 := Lib.hid f2
  have HCV := Lib.hid hcv
  have HS := Lib.hid hs
  have HO := Lib.hid hout
  obtain ⟨n', en'⟩ : ∃ n, n = l.length := ⟨_, rfl⟩
  simp only [← en'] at F2 ⊢
  obtain ⟨n, en⟩ : ∃ n, n = vals.length := ⟨_, rfl⟩
  rw [← en] at hbv
  simp only [← en] at F2 HCV HO ⊢
  have M0 : Hid (Mem w (((w.alloc (.cells #[.int .i64 p.mn, .int .i64 p.mx, .int .i64 p.tg, .int .i64 p.tl, .int .i64 p.wi, .int .i64 p.ho] 23)).alloc (.cells #[.slice none 0 0, .int .i64 0, .int .i64 0, .int .i64 0, .int .i64 0, .int .i64 0, .int .i64 0] 28)).alloc (.cells #[.slice none 0 0, .int .i64 0, .int .i64 0, .int .i64 0, .int .i64 0, .int .i64 0, .int .i64 0] 28)) [(w.heap.size, .cells #[.int .i64 p.mn, .int .i64 p.mx, .int .i64 p.tg, .int .i64 p.tl, .int .i64 p.wi, .int .i64 p.ho] 23), (w.heap.size + 1, .cells #[.slice none 0 0, .int .i64 0, .int .i64 0, .int .i64 0, .int .i64 0, .int .i64 0, .int .i64 0] 28), (w.heap.size + 2, .cells #[.slice none 0 0, .int .i64 0, .int .i64 0, .int .i64 0, .int .i64 0, .int .i64 0, .int .i64 0] 28)]) := (((Mem.start w).alloc _).allocAs (w.heap.size + 1) _ (by simp)).allocAs (w.heap.size + 2) _ (by simp)
  clear f1 f2 hin hcv hs hout en' en eQ eV ec eS hQ hV hcc hSS hsv hv hl hp hb
  go_enter Tryz.func13, Tryz.ntmps13
  go_wp2
  go_loopw [15, 17, 24] (fun v f i wr => ∃ (k : Nat) (v' : Int) (R : Res) (f' : Bool) (u : Option Addr) (d : Nat), k ≤ n ∧ i = .int .i64 (k : Nat) ∧ v = .int .i64 v' ∧ f = .bool f' ∧ Bst.go V cc SS k (n - k) v' R f' = (vo, Ro, co) ∧ Mem w wr [(w.heap.size, .cells #[.int .i64 p.mn, .int .i64 p.mx, .int .i64 p.tg, .int .i64 p.tl, .int .i64 p.wi, .int .i64 p.ho] 23), (w.heap.size + 1, .cells #[.slice none 0 0, .int .i64 0, .int .i64 0, .int .i64 0, .int .i64 0, .int .i64 0, .int .i64 0] 28), (w.heap.size + 2, .cells (R.cells u d) 28)] ∧ Adf (w.heap.size + 3) wr u R.r) (fun _ _ i _ => n - (intOf i).toNat)
  case atStart => exact ⟨0, 0, Res.zero, false, none, 0, by omega, rfl, rfl, rfl, HO.out, M0.out, Adf.none _ _⟩
  case round =>
    obtain ⟨k, v', R, f', u, d, hk, rfl, rfl, rfl, hgo, hM, hA⟩ := hrel
    obtain ⟨r, C, T, a, b, x, y⟩ := R
    simp only [Res.cells] at hM
    obtain ⟨m, em⟩ : ∃ m, m = r.length := ⟨_, rfl⟩
    rw [← em] at hM
    have EM := Lib.hid em
    clear em
    by_cases hkn : k < n
    · have hkn' : (k : Int) < (n : Int) := by omega
      have f1 := F1.out k
      have f2 := F2.out k hkn
      have HT := Lib.hid (fun (h : cc k = 0) (h2 : f' = false ∨ (SS k).cmp ⟨r, C, T, a, b, x, y⟩ < 0) => (Bst.go_take hkn h h2).symm.trans hgo)
      have HKP := Lib.hid (fun (h : cc k = 0) (h2 : ¬ (f' = false ∨ (SS k).cmp ⟨r, C, T, a, b, x, y⟩ < 0)) => (Bst.go_keep hkn h h2).symm.trans hgo)
      have HSK := Lib.hid (fun (h : cc k = 7) => (Bst.go_skip hkn h).symm.trans hgo)
      have HST := Lib.hid (fun (h : cc k ≠ 7) (h2 : cc k ≠ 0) => (Bst.go_stop (V := V) (S := SS) (v := v') (R := ⟨r, C, T, a, b, x, y⟩) (f := f') hkn h h2).symm.trans hgo)
      obtain ⟨g, off, rfl, hbw, hcell⟩ := HCV.out wr hM.below k hkn
      obtain ⟨xv, exv⟩ : ∃ x, x = V k := ⟨_, rfl⟩
      rw [← exv] at hcell HT
      rw [← exv] at f1
      obtain ⟨c, ecc⟩ : ∃ c, c = cc k := ⟨_, rfl⟩
      simp only [← ecc] at f2 HT HKP HSK HST
      obtain ⟨S4, eS4⟩ : ∃ S, S = SS k := ⟨_, rfl⟩
      simp only [← eS4] at f2 HT HKP
      obtain ⟨r4, C4, T4, a4, b4, x4, y4⟩ := S4
      simp only [Res.cells] at f2
      obtain ⟨m4, em4⟩ : ∃ m, m = r4.length := ⟨_, rfl⟩
      simp only [← em4] at f2
      have EM4 := Lib.hid em4
      obtain ⟨Qk, eQk⟩ : ∃ Q', Q' = Q k := ⟨_, rfl⟩
      simp only [← eQk] at f1 f2
      have G1 := Lib.hid f1
      have G2 := Lib.hid f2
      have M1 := Lib.hid hM
      have A1 := Lib.hid hA
      have K1 := Lib.hid (hM.heap 0 rfl)
      clear f1 f2 hgo hM hA exv ecc eS4 em4 eQk
      go_wp2_with ((with_reducible refine wpList_load_rowAs rfl 23 _ rfl (w.heap.size) ?_ 23 #[.int .i64 p.mn, .int .i64 p.mx, .int .i64 p.tg, .int .i64 p.tl, .int .i64 p.wi, .int .i64 p.ho] (0, 0) _ 6 ?_ Tryz.underlying23 rfl (by kernel_rfl) ?_ ?_); exact rfl; exact K1.out; exact rfl)
      (with_reducible refine (G1.out _).mono ?_)
      rintro e w3 ⟨rfl, hb3⟩
      have M3 := Lib.hid (M1.out.call hb3)
      have A3 := Lib.hid (A1.out.below hb3)
      clear hb3 M1 K1 A1
      go_wp2_with fail
      (with_reducible refine (G2.out _ (HS.out.below M3.out.below)).mono ?_)
      rintro e w4 ⟨u4, d4, rfl, hA4, hb4⟩
      have hb4' := hb4.trans ((below1 w4 (.cells #[.slice u4 m4 d4, .int .i64 C4, .int .i64 T4, .int .i64 a4, .int .i64 b4, .int .i64 x4, .int .i64 y4] 28)).mono hb4.size)
      have hlo : w.heap.size + 3 ≤ w3.heap.size := by have := M3.out.lt (i := 2) rfl; omega
      have M4 := Lib.hid ((M3.out.call hb4).alloc (.cells #[.slice u4 m4 d4, .int .i64 C4, .int .i64 T4, .int .i64 a4, .int .i64 b4, .int .i64 x4, .int .i64 y4] 28))
      have A4 := Lib.hid ((hA4.wide hlo).below (below1 w4 (.cells #[.slice u4 m4 d4, .int .i64 C4, .int .i64 T4, .int .i64 a4, .int .i64 b4, .int .i64 x4, .int .i64 y4] 28)))
      have A1 := Lib.hid (A3.out.below hb4')
      clear hb4 hb4' M3 A3 hA4
      by_cases h7 : c = 7
      · subst h7
        have HK2 := Lib.hid (HSK.out rfl)
        clear HT HKP HSK HST
        go_wp2_with ((with_reducible refine wpList_store_rowAs rfl 28 _ _ rfl (w4.heap.size) #[.slice u4 m4 d4, .int .i64 C4, .int .i64 T4, .int .i64 a4, .int .i64 b4, .int .i64 x4, .int .i64 y4] ?_ ?_ 28 #[.slice none 0 0, .int .i64 0, .int .i64 0, .int .i64 0, .int .i64 0, .int .i64 0, .int .i64 0] 7 ?_ (by kernel_rfl) rfl rfl (by simp [Value.oneCell']) ?_); exact rfl; exact rfl; exact (heap_alloc_at _ _ _ rfl); (first | rw [row_1_0] | rw [row_2_0] | rw [row_2_1] | rw [row_3_0] | rw [row_3_1] | rw [row_3_2] | rw [row_4_0] | rw [row_4_1] | rw [row_4_2] | rw [row_4_3] | rw [row_5_0] | rw [row_5_1] | rw [row_5_2] | rw [row_5_3] | rw [row_5_4] | rw [row_6_0] | rw [row_6_1] | rw [row_6_2] | rw [row_6_3] | rw [row_6_4] | rw [row_6_5] | simp only [setRow_alloc_past, setRow_alloc_at, World.size_alloc, Nat.add_assoc, Nat.reduceAdd, Nat.lt_add_right_iff_pos, Nat.add_lt_add_iff_left, Nat.reduceLT, Nat.zero_lt_succ, Nat.lt_add_one]))
        exact ⟨⟨k + 1, v', ⟨r, C, T, a, b, x, y⟩, f', u, d, by omega, by go_num, rfl, rfl, HK2.out, by show Mem _ _ _; simp only [Res.cells]; rw [← EM.out]; exact M4.out.init, A1.out⟩, by simp [intOf]; omega⟩
      by_cases h0 : c = 0
      · subst h0
        have hcmp := fun W : World => trial_cmp u4 u m4 d4 m d C4 T4 a4 b4 x4 y4 C T a b x y W
        have ez0 : (⟨r4, C4, T4, a4, b4, x4, y4⟩ : Res).cmp ⟨r, C, T, a, b, x, y⟩ = Tri.cmp C4 T4 x4 y4 C T x y := rfl
        obtain ⟨z, ez⟩ : ∃ z, z = Tri.cmp C4 T4 x4 y4 C T x y := ⟨_, rfl⟩
        rw [← ez] at ez0
        simp only [← ez] at hcmp
        simp only [ez0] at HT HKP
        have HCMP := Lib.hid hcmp
        clear ez hcmp ez0 HSK HST
        cases f' with
        | false =>
          replace HT := Lib.hid (HT.out (by trivial) (.inl (by trivial)))
          clear HKP HCMP
          go_wp2_with ((with_reducible refine wpList_store_rowAs rfl 28 _ _ rfl (w4.heap.size) #[.slice u4 m4 d4, .int .i64 C4, .int .i64 T4, .int .i64 a4, .int .i64 b4, .int .i64 x4, .int .i64 y4] ?_ ?_ 28 #[.slice none 0 0, .int .i64 0, .int .i64 0, .int .i64 0, .int .i64 0, .int .i64 0, .int .i64 0] 7 ?_ (by kernel_rfl) rfl rfl (by simp [Value.oneCell']) ?_); exact rfl; exact rfl; exact (heap_alloc_at _ _ _ rfl); (first | rw [row_1_0] | rw [row_2_0] | rw [row_2_1] | rw [row_3_0] | rw [row_3_1] | rw [row_3_2] | rw [row_4_0] | rw [row_4_1] | rw [row_4_2] | rw [row_4_3] | rw [row_5_0] | rw [row_5_1] | rw [row_5_2] | rw [row_5_3] | rw [row_5_4] | rw [row_6_0] | rw [row_6_1] | rw [row_6_2] | rw [row_6_3] | rw [row_6_4] | rw [row_6_5] | simp only [setRow_alloc_past, setRow_alloc_at, World.size_alloc, Nat.add_assoc, Nat.reduceAdd, Nat.lt_add_right_iff_pos, Nat.add_lt_add_iff_left, Nat.reduceLT, Nat.zero_lt_succ, Nat.lt_add_one]))
          have hst := stab_and (stab_mem (w := w) (bs := [(w.heap.size, .cells #[.int .i64 p.mn, .int .i64 p.mx, .int .i64 p.tg, .int .i64 p.tl, .int .i64 p.wi, .int .i64 p.ho] 23), (w.heap.size + 1, .cells #[.slice none 0 0, .int .i64 0, .int .i64 0, .int .i64 0, .int .i64 0, .int .i64 0, .int .i64 0] 28), (w.heap.size + 2, .cells #[.slice u m d, .int .i64 C, .int .i64 T, .int .i64 a, .int .i64 b, .int .i64 x, .int .i64 y] 28), (w4.heap.size, .cells #[.slice u4 m4 d4, .int .i64 C4, .int .i64 T4, .int .i64 a4, .int .i64 b4, .int .i64 x4, .int .i64 y4] 28)])) (stab_adf (A := w.heap.size + 3) (q := u4) (l := r4))
          refine wp_region_E mixed [3] hst ⟨M4.out.drewN 1, A4.out.below (below_drew (Below.refl _ _))⟩ ?_
          refine wpAnyE_take 0 rfl (by kernel_rfl) (by kernel_rfl) (by kernel_rfl) (fun _ _ _ h => h) hst (EffB.pure rfl (fun _ => rfl)) (.inr (EffB.pure rfl (fun _ => rfl))) ?_
          simp only [act_norm]
          refine wpAnyE_take 1 (v := .agg #[.slice u4 m4 d4, .int .i64 C4, .int .i64 T4, .int .i64 a4, .int .i64 b4, .int .i64 x4, .int .i64 y4]) rfl (by kernel_rfl) (by kernel_rfl) (by kernel_rfl) (fun _ _ _ h => h) hst (EffB.run rfl rfl (fun wd hS => ?_)) (.inl (by kernel_rfl)) ?_
          · exact wp_load_row 28 _ rfl (w4.heap.size) rfl 28 #[.slice u4 m4 d4, .int .i64 C4, .int .i64 T4, .int .i64 a4, .int .i64 b4, .int .i64 x4, .int .i64 y4] (0, 0) _ (hS.1.heap 3 rfl) Tryz.underlying28 rfl (by kernel_rfl) ⟨rfl, Below.refl _ _⟩
          simp only [act_norm]
          refine wpAnyE_take 2 rfl (by kernel_rfl) (by kernel_rfl) (by kernel_rfl) (fun _ _ _ h => h) hst (EffB.pure rfl (fun _ => rfl)) (.inr (EffB.pure rfl (fun _ => rfl))) ?_
          simp only [act_norm]
          refine wpAnyE_one 3 rfl (by kernel_rfl) rfl (fun wd hS => ?_)
          have hst2 := stab_and (stab_mem (w := w) (bs := [(w.heap.size, .cells #[.int .i64 p.mn, .int .i64 p.mx, .int .i64 p.tg, .int .i64 p.tl, .int .i64 p.wi, .int .i64 p.ho] 23), (w.heap.size + 1, .cells #[.slice none 0 0, .int .i64 0, .int .i64 0, .int .i64 0, .int .i64 0, .int .i64 0, .int .i64 0] 28), (w.heap.size + 2, .cells #[.slice u4 m4 d4, .int .i64 C4, .int .i64 T4, .int .i64 a4, .int .i64 b4, .int .i64 x4, .int .i64 y4] 28), (w4.heap.size, .cells #[.slice u4 m4 d4, .int .i64 C4, .int .i64 T4, .int .i64 a4, .int .i64 b4, .int .i64 x4, .int .i64 y4] 28)])) (stab_adf (A := w.heap.size + 3) (q := u4) (l := r4))
          refine wp_store_row 28 _ _ rfl (w.heap.size + 2) #[.slice u4 m4 d4, .int .i64 C4, .int .i64 T4, .int .i64 a4, .int .i64 b4, .int .i64 x4, .int .i64 y4] rfl rfl 28 #[.slice u m d, .int .i64 C, .int .i64 T, .int .i64 a, .int .i64 b, .int .i64 x, .int .i64 y] (hS.1.heap 2 rfl) runResSize rfl (by simp [Value.oneCell']) ?_
          refine ⟨_, ⟨hS.1.setRow 2 rfl, hS.2.setRow (w.heap.size + 2) (by omega) _⟩, hst2, .inl (by decide), ?_⟩
          try simp only [act_norm]
          clear hS hst
          have hst := hst2
          refine wpAnyE_take 4 rfl (by kernel_rfl) (by kernel_rfl) (by kernel_rfl) (fun _ _ _ h => h) hst (EffB.pure rfl (fun _ => rfl)) (.inr (EffB.pure rfl (fun _ => rfl))) ?_
          simp only [act_norm]
          refine wpAnyE_done (by kernel_rfl) (fun wd hS => ?_) _
          have MF := Lib.hid hS.1
          have AF := Lib.hid hS.2
          clear hS hst hst2
          go_wp2
          exact ⟨⟨k + 1, xv, ⟨r4, C4, T4, a4, b4, x4, y4⟩, true, u4, d4, by omega, by go_num, rfl, rfl, HT.out, by show Mem _ _ _; simp only [Res.cells]; rw [← EM4.out]; exact MF.out.init, AF.out⟩, by simp [intOf]; omega⟩
        | true =>
          have K4 := Lib.hid (M4.out.heap 3 rfl)
          have K2 := Lib.hid (M4.out.heap 2 rfl)
          by_cases hz : z < 0
          · replace HT := Lib.hid (HT.out (by trivial) (.inr hz))
            have bz : decide (z < 0) = true := decide_eq_true hz
            clear HKP hz
            go_wp2_with (first | ((with_reducible refine wpList_store_rowAs rfl 28 _ _ rfl (w4.heap.size) #[.slice u4 m4 d4, .int .i64 C4, .int .i64 T4, .int .i64 a4, .int .i64 b4, .int .i64 x4, .int .i64 y4] ?_ ?_ 28 #[.slice none 0 0, .int .i64 0, .int .i64 0, .int .i64 0, .int .i64 0, .int .i64 0, .int .i64 0] 7 ?_ (by kernel_rfl) rfl rfl (by simp [Value.oneCell']) ?_); exact rfl; exact rfl; exact (heap_alloc_at _ _ _ rfl); (first | rw [row_1_0] | rw [row_2_0] | rw [row_2_1] | rw [row_3_0] | rw [row_3_1] | rw [row_3_2] | rw [row_4_0] | rw [row_4_1] | rw [row_4_2] | rw [row_4_3] | rw [row_5_0] | rw [row_5_1] | rw [row_5_2] | rw [row_5_3] | rw [row_5_4] | rw [row_6_0] | rw [row_6_1] | rw [row_6_2] | rw [row_6_3] | rw [row_6_4] | rw [row_6_5] | simp only [setRow_alloc_past, setRow_alloc_at, World.size_alloc, Nat.add_assoc, Nat.reduceAdd, Nat.lt_add_right_iff_pos, Nat.add_lt_add_iff_left, Nat.reduceLT, Nat.zero_lt_succ, Nat.lt_add_one])) | ((with_reducible refine wpList_load_rowG ?_ 28 _ rfl (w4.heap.size) ?_ 28 #[.slice u4 m4 d4, .int .i64 C4, .int .i64 T4, .int .i64 a4, .int .i64 b4, .int .i64 x4, .int .i64 y4] (0, 0) _ 7 ?_ Tryz.underlying28 rfl (by kernel_rfl) ?_ ?_); kernel_rfl; exact rfl; exact K4.out; exact rfl) | ((with_reducible refine wpList_load_rowG ?_ 28 _ rfl ((w.heap.size + 2)) ?_ 28 #[.slice u m d, .int .i64 C, .int .i64 T, .int .i64 a, .int .i64 b, .int .i64 x, .int .i64 y] (0, 0) _ 7 ?_ Tryz.underlying28 rfl (by kernel_rfl) ?_ ?_); kernel_rfl; exact rfl; exact K2.out; exact rfl))
            (with_reducible refine (HCMP.out _).mono ?_)
            rintro e w5 ⟨rfl, hb5⟩
            have M5 := Lib.hid (M4.out.call hb5)
            have A4 := Lib.hid (A4.out.below hb5)
            clear hb5 M4 K4 K2
            go_wp2_with fail
            have hst := stab_and (stab_mem (w := w) (bs := [(w.heap.size, .cells #[.int .i64 p.mn, .int .i64 p.mx, .int .i64 p.tg, .int .i64 p.tl, .int .i64 p.wi, .int .i64 p.ho] 23), (w.heap.size + 1, .cells #[.slice none 0 0, .int .i64 0, .int .i64 0, .int .i64 0, .int .i64 0, .int .i64 0, .int .i64 0] 28), (w.heap.size + 2, .cells #[.slice u m d, .int .i64 C, .int .i64 T, .int .i64 a, .int .i64 b, .int .i64 x, .int .i64 y] 28), (w4.heap.size, .cells #[.slice u4 m4 d4, .int .i64 C4, .int .i64 T4, .int .i64 a4, .int .i64 b4, .int .i64 x4, .int .i64 y4] 28)])) (stab_adf (A := w.heap.size + 3) (q := u4) (l := r4))
            refine wp_region_E mixed [3] hst ⟨M5.out.drewN 1, A4.out.below (below_drew (Below.refl _ _))⟩ ?_
            refine wpAnyE_take 0 rfl (by kernel_rfl) (by kernel_rfl) (by kernel_rfl) (fun _ _ _ h => h) hst (EffB.pure rfl (fun _ => rfl)) (.inr (EffB.pure rfl (fun _ => rfl))) ?_
            simp only [act_norm]
            refine wpAnyE_take 1 (v := .agg #[.slice u4 m4 d4, .int .i64 C4, .int .i64 T4, .int .i64 a4, .int .i64 b4, .int .i64 x4, .int .i64 y4]) rfl (by kernel_rfl) (by kernel_rfl) (by kernel_rfl) (fun _ _ _ h => h) hst (EffB.run rfl rfl (fun wd hS => ?_)) (.inl (by kernel_rfl)) ?_
            · exact wp_load_row 28 _ rfl (w4.heap.size) rfl 28 #[.slice u4 m4 d4, .int .i64 C4, .int .i64 T4, .int .i64 a4, .int .i64 b4, .int .i64 x4, .int .i64 y4] (0, 0) _ (hS.1.heap 3 rfl) Tryz.underlying28 rfl (by kernel_rfl) ⟨rfl, Below.refl _ _⟩
            simp only [act_norm]
            refine wpAnyE_take 2 rfl (by kernel_rfl) (by kernel_rfl) (by kernel_rfl) (fun _ _ _ h => h) hst (EffB.pure rfl (fun _ => rfl)) (.inr (EffB.pure rfl (fun _ => rfl))) ?_
            simp only [act_norm]
            refine wpAnyE_one 3 rfl (by kernel_rfl) rfl (fun wd hS => ?_)
            have hst2 := stab_and (stab_mem (w := w) (bs := [(w.heap.size, .cells #[.int .i64 p.mn, .int .i64 p.mx, .int .i64 p.tg, .int .i64 p.tl, .int .i64 p.wi, .int .i64 p.ho] 23), (w.heap.size + 1, .cells #[.slice none 0 0, .int .i64 0, .int .i64 0, .int .i64 0, .int .i64 0, .int .i64 0, .int .i64 0] 28), (w.heap.size + 2, .cells #[.slice u4 m4 d4, .int .i64 C4, .int .i64 T4, .int .i64 a4, .int .i64 b4, .int .i64 x4, .int .i64 y4] 28), (w4.heap.size, .cells #[.slice u4 m4 d4, .int .i64 C4, .int .i64 T4, .int .i64 a4, .int .i64 b4, .int .i64 x4, .int .i64 y4] 28)])) (stab_adf (A := w.heap.size + 3) (q := u4) (l := r4))
            refine wp_store_row 28 _ _ rfl (w.heap.size + 2) #[.slice u4 m4 d4, .int .i64 C4, .int .i64 T4, .int .i64 a4, .int .i64 b4, .int .i64 x4, .int .i64 y4] rfl rfl 28 #[.slice u m d, .int .i64 C, .int .i64 T, .int .i64 a, .int .i64 b, .int .i64 x, .int .i64 y] (hS.1.heap 2 rfl) runResSize rfl (by simp [Value.oneCell']) ?_
            refine ⟨_, ⟨hS.1.setRow 2 rfl, hS.2.setRow (w.heap.size + 2) (by omega) _⟩, hst2, .inl (by decide), ?_⟩
            try simp only [act_norm]
            clear hS hst
            have hst := hst2
            refine wpAnyE_take 4 rfl (by kernel_rfl) (by kernel_rfl) (by kernel_rfl) (fun _ _ _ h => h) hst (EffB.pure rfl (fun _ => rfl)) (.inr (EffB.pure rfl (fun _ => rfl))) ?_
            simp only [act_norm]
            refine wpAnyE_done (by kernel_rfl) (fun wd hS => ?_) _
            have MF := Lib.hid hS.1
            have AF := Lib.hid hS.2
            clear hS hst hst2
            go_wp2
            exact ⟨⟨k + 1, xv, ⟨r4, C4, T4, a4, b4, x4, y4⟩, true, u4, d4, by omega, by go_num, rfl, rfl, HT.out, by show Mem _ _ _; simp only [Res.cells]; rw [← EM4.out]; exact MF.out.init, AF.out⟩, by simp [intOf]; omega⟩
          · replace HKP := Lib.hid (HKP.out (by trivial) (fun h => h.elim (by simp) hz))
            have bz : decide (z < 0) = false := decide_eq_false hz
            clear HT hz
            go_wp2_with (first | ((with_reducible refine wpList_store_rowAs rfl 28 _ _ rfl (w4.heap.size) #[.slice u4 m4 d4, .int .i64 C4, .int .i64 T4, .int .i64 a4, .int .i64 b4, .int .i64 x4, .int .i64 y4] ?_ ?_ 28 #[.slice none 0 0, .int .i64 0, .int .i64 0, .int .i64 0, .int .i64 0, .int .i64 0, .int .i64 0] 7 ?_ (by kernel_rfl) rfl rfl (by simp [Value.oneCell']) ?_); exact rfl; exact rfl; exact (heap_alloc_at _ _ _ rfl); (first | rw [row_1_0] | rw [row_2_0] | rw [row_2_1] | rw [row_3_0] | rw [row_3_1] | rw [row_3_2] | rw [row_4_0] | rw [row_4_1] | rw [row_4_2] | rw [row_4_3] | rw [row_5_0] | rw [row_5_1] | rw [row_5_2] | rw [row_5_3] | rw [row_5_4] | rw [row_6_0] | rw [row_6_1] | rw [row_6_2] | rw [row_6_3] | rw [row_6_4] | rw [row_6_5] | simp only [setRow_alloc_past, setRow_alloc_at, World.size_alloc, Nat.add_assoc, Nat.reduceAdd, Nat.lt_add_right_iff_pos, Nat.add_lt_add_iff_left, Nat.reduceLT, Nat.zero_lt_succ, Nat.lt_add_one])) | ((with_reducible refine wpList_load_rowG ?_ 28 _ rfl (w4.heap.size) ?_ 28 #[.slice u4 m4 d4, .int .i64 C4, .int .i64 T4, .int .i64 a4, .int .i64 b4, .int .i64 x4, .int .i64 y4] (0, 0) _ 7 ?_ Tryz.underlying28 rfl (by kernel_rfl) ?_ ?_); kernel_rfl; exact rfl; exact K4.out; exact rfl) | ((with_reducible refine wpList_load_rowG ?_ 28 _ rfl ((w.heap.size + 2)) ?_ 28 #[.slice u m d, .int .i64 C, .int .i64 T, .int .i64 a, .int .i64 b, .int .i64 x, .int .i64 y] (0, 0) _ 7 ?_ Tryz.underlying28 rfl (by kernel_rfl) ?_ ?_); kernel_rfl; exact rfl; exact K2.out; exact rfl))
            (with_reducible refine (HCMP.out _).mono ?_)
            rintro e w5 ⟨rfl, hb5⟩
            have M5 := Lib.hid (M4.out.call hb5)
            have A1 := Lib.hid (A1.out.below hb5)
            clear hb5 M4 K4 K2
            go_wp2
            exact ⟨⟨k + 1, v', ⟨r, C, T, a, b, x, y⟩, true, u, d, by omega, by go_num, rfl, rfl, HKP.out, by show Mem _ _ _; simp only [Res.cells]; rw [← EM.out]; exact M5.out.init, A1.out⟩, by simp [intOf]; omega⟩
      · have b7 : (c == 7) = false := beq_eq_false_iff_ne.2 h7
        have b0 : (c == 0) = false := beq_eq_false_iff_ne.2 h0
        have b0' : (c != 0) = true := by simpa using h0
        have hst := HST.out h7 h0
        obtain ⟨rfl, rfl, rfl⟩ : (0 : Int) = vo ∧ Res.zero = Ro ∧ c = co := by simpa using hst
        have K4 := Lib.hid (M4.out.heap 1 rfl)
        clear HT HKP HSK HST hst h7 h0
        go_wp2_with (first | ((with_reducible refine wpList_store_rowAs rfl 28 _ _ rfl (w4.heap.size) #[.slice u4 m4 d4, .int .i64 C4, .int .i64 T4, .int .i64 a4, .int .i64 b4, .int .i64 x4, .int .i64 y4] ?_ ?_ 28 #[.slice none 0 0, .int .i64 0, .int .i64 0, .int .i64 0, .int .i64 0, .int .i64 0, .int .i64 0] 7 ?_ (by kernel_rfl) rfl rfl (by simp [Value.oneCell']) ?_); exact rfl; exact rfl; exact (heap_alloc_at _ _ _ rfl); (first | rw [row_1_0] | rw [row_2_0] | rw [row_2_1] | rw [row_3_0] | rw [row_3_1] | rw [row_3_2] | rw [row_4_0] | rw [row_4_1] | rw [row_4_2] | rw [row_4_3] | rw [row_5_0] | rw [row_5_1] | rw [row_5_2] | rw [row_5_3] | rw [row_5_4] | rw [row_6_0] | rw [row_6_1] | rw [row_6_2] | rw [row_6_3] | rw [row_6_4] | rw [row_6_5] | simp only [setRow_alloc_past, setRow_alloc_at, World.size_alloc, Nat.add_assoc, Nat.reduceAdd, Nat.lt_add_right_iff_pos, Nat.add_lt_add_iff_left, Nat.reduceLT, Nat.zero_lt_succ, Nat.lt_add_one])) | ((with_reducible refine wpList_store_rowAs rfl 28 _ _ rfl ((w.heap.size + 1)) #[.slice none 0 0, .int .i64 0, .int .i64 0, .int .i64 0, .int .i64 0, .int .i64 0, .int .i64 0] ?_ ?_ 28 #[.slice none 0 0, .int .i64 0, .int .i64 0, .int .i64 0, .int .i64 0, .int .i64 0, .int .i64 0] 7 ?_ (by kernel_rfl) rfl rfl (by simp [Value.oneCell']) ?_); exact rfl; exact rfl; exact K4.out))
        have MF := Lib.hid (M4.out.setRow 1 (cs := #[.slice none 0 0, .int .i64 0, .int .i64 0, .int .i64 0, .int .i64 0, .int .i64 0, .int .i64 0]) rfl)
        exact bodyPost_ret (results_tmp_row_tmp rfl _ _ (w.heap.size + 1) 28 #[.slice none 0 0, .int .i64 0, .int .i64 0, .int .i64 0, .int .i64 0, .int .i64 0, .int .i64 0] (0, 0) _ 7 _ _ rfl rfl rfl (MF.out.heap 1 rfl) Tryz.underlying28 rfl runResSize rfl) rfl ⟨none, 0, rfl, .inl rfl, MF.out.below⟩
    · have hkn' : ¬ (k : Int) < (n : Int) := by omega
      have M1 := Lib.hid hM
      have A1 := Lib.hid hA
      cases f' with
      | false =>
        have hend := (Bst.go_none (V := V) (c := cc) (S := SS) (v := v') (R := ⟨r, C, T, a, b, x, y⟩) hkn).symm.trans hgo
        obtain ⟨rfl, rfl, rfl⟩ : (0 : Int) = vo ∧ Res.zero = Ro ∧ (5 : Int) = co := by simpa using hend
        have K1 := Lib.hid (hM.heap 1 rfl)
        clear hgo hM hA hend A1
        go_wp2_with ((with_reducible refine wpList_store_rowAs rfl 28 _ _ rfl ((w.heap.size + 1)) #[.slice none 0 0, .int .i64 0, .int .i64 0, .int .i64 0, .int .i64 0, .int .i64 0, .int .i64 0] ?_ ?_ 28 #[.slice none 0 0, .int .i64 0, .int .i64 0, .int .i64 0, .int .i64 0, .int .i64 0, .int .i64 0] 7 ?_ (by kernel_rfl) rfl rfl (by simp [Value.oneCell']) ?_); exact rfl; exact rfl; exact K1.out)
        have MF := Lib.hid (M1.out.setRow 1 (cs := #[.slice none 0 0, .int .i64 0, .int .i64 0, .int .i64 0, .int .i64 0, .int .i64 0, .int .i64 0]) rfl)
        exact bodyPost_ret (results_tmp_row_tmp rfl _ _ (w.heap.size + 1) 28 #[.slice none 0 0, .int .i64 0, .int .i64 0, .int .i64 0, .int .i64 0, .int .i64 0, .int .i64 0] (0, 0) _ 7 _ _ rfl rfl rfl (MF.out.heap 1 rfl) Tryz.underlying28 rfl runResSize rfl) rfl ⟨none, ⟨0, rfl⟩, .inl rfl, MF.out.below⟩
      | true =>
        have hend := (Bst.go_yes (V := V) (c := cc) (S := SS) (v := v') (R := ⟨r, C, T, a, b, x, y⟩) hkn).symm.trans hgo
        obtain ⟨rfl, rfl, rfl⟩ : v' = vo ∧ (⟨r, C, T, a, b, x, y⟩ : Res) = Ro ∧ (0 : Int) = co := by simpa using hend
        clear hgo hM hA hend HO
        go_wp2_with fail
        have hst := stab_and (stab_mem (w := w) (bs := [(w.heap.size, .cells #[.int .i64 p.mn, .int .i64 p.mx, .int .i64 p.tg, .int .i64 p.tl, .int .i64 p.wi, .int .i64 p.ho] 23), (w.heap.size + 1, .cells #[.slice none 0 0, .int .i64 0, .int .i64 0, .int .i64 0, .int .i64 0, .int .i64 0, .int .i64 0] 28), (w.heap.size + 2, .cells #[.slice u m d, .int .i64 C, .int .i64 T, .int .i64 a, .int .i64 b, .int .i64 x, .int .i64 y] 28)])) (stab_adf (A := w.heap.size + 3) (q := u) (l := r))
        refine wp_region_E mixed [3] hst ⟨M1.out.drewN 1, A1.out.below (below_drew (Below.refl _ _))⟩ ?_
        refine wpAnyE_take 0 rfl (by kernel_rfl) (by kernel_rfl) (by kernel_rfl) (fun _ _ _ h => h) hst (EffB.pure rfl (fun _ => rfl)) (.inr (EffB.pure rfl (fun _ => rfl))) ?_
        simp only [act_norm]
        refine wpAnyE_take 1 (v := .agg #[.slice u m d, .int .i64 C, .int .i64 T, .int .i64 a, .int .i64 b, .int .i64 x, .int .i64 y]) rfl (by kernel_rfl) (by kernel_rfl) (by kernel_rfl) (fun _ _ _ h => h) hst (EffB.run rfl rfl (fun wd hS => ?_)) (.inl (by kernel_rfl)) ?_
        · exact wp_load_row 28 _ rfl (w.heap.size + 2) rfl 28 #[.slice u m d, .int .i64 C, .int .i64 T, .int .i64 a, .int .i64 b, .int .i64 x, .int .i64 y] (0, 0) _ (hS.1.heap 2 rfl) Tryz.underlying28 rfl (by kernel_rfl) ⟨rfl, Below.refl _ _⟩
        simp only [act_norm]
        refine wpAnyE_take 2 rfl (by kernel_rfl) (by kernel_rfl) (by kernel_rfl) (fun _ _ _ h => h) hst (EffB.pure rfl (fun _ => rfl)) (.inr (EffB.pure rfl (fun _ => rfl))) ?_
        simp only [act_norm]
        refine wpAnyE_one 3 rfl (by kernel_rfl) rfl (fun wd hS => ?_)
        have hst2 := stab_and (stab_mem (w := w) (bs := [(w.heap.size, .cells #[.int .i64 p.mn, .int .i64 p.mx, .int .i64 p.tg, .int .i64 p.tl, .int .i64 p.wi, .int .i64 p.ho] 23), (w.heap.size + 1, .cells #[.slice u m d, .int .i64 C, .int .i64 T, .int .i64 a, .int .i64 b, .int .i64 x, .int .i64 y] 28), (w.heap.size + 2, .cells #[.slice u m d, .int .i64 C, .int .i64 T, .int .i64 a, .int .i64 b, .int .i64 x, .int .i64 y] 28)])) (stab_adf (A := w.heap.size + 3) (q := u) (l := r))
        refine wp_store_row 28 _ _ rfl (w.heap.size + 1) #[.slice u m d, .int .i64 C, .int .i64 T, .int .i64 a, .int .i64 b, .int .i64 x, .int .i64 y] rfl rfl 28 #[.slice none 0 0, .int .i64 0, .int .i64 0, .int .i64 0, .int .i64 0, .int .i64 0, .int .i64 0] (hS.1.heap 1 rfl) runResSize rfl (by simp [Value.oneCell']) ?_
        refine ⟨_, ⟨hS.1.setRow 1 rfl, hS.2.setRow (w.heap.size + 1) (by omega) _⟩, hst2, .inl (by decide), ?_⟩
        try simp only [act_norm]
        clear hS hst
        have hst := hst2
        refine wpAnyE_take 4 rfl (by kernel_rfl) (by kernel_rfl) (by kernel_rfl) (fun _ _ _ h => h) hst (EffB.pure rfl (fun _ => rfl)) (.inr (EffB.pure rfl (fun _ => rfl))) ?_
        simp only [act_norm]
        refine wpAnyE_done (by kernel_rfl) (fun wd hS => ?_) _
        have MF := Lib.hid hS.1
        have AF := Lib.hid hS.2
        clear hS hst hst2
        go_wp2
        exact bodyPost_ret (results_tmp_row_tmp rfl _ _ (w.heap.size + 1) 28 #[.slice u m d, .int .i64 C, .int .i64 T, .int .i64 a, .int .i64 b, .int .i64 x, .int .i64 y] (0, 0) _ 7 _ _ rfl rfl rfl (MF.out.heap 1 rfl) Tryz.underlying28 rfl runResSize rfl) rfl ⟨u, ⟨d, by simp only [Res.cells]; rw [← EM.out]; rfl⟩, AF.out.1, MF.out.below⟩
end Go.Proofs.YtildjnibdappnaaGreat
