/- Layer 52: a line, its value at a tick, whether it rises; the tick in the middle. -/
import Derived.Test.YtcanbagnehdbiaaJSer12
import Derived.Test.YtcanbagnehdbiaaJBase
import Derived.Test.YtcanbagnehdbiaaJDec
namespace Go.Proofs.Ytcanbagnehdbiaa
open Go.ChangeShapes Go.WideShapes Go.ChangeAt Go.RowKit

structure Lin where
  tick : Int
  val : Int
  rise : Int
  run : Int
deriving DecidableEq
def Lin.In (x : Lin) : Prop := I64 x.tick ∧ I64 x.val ∧ I64 x.rise ∧ I64 x.run
def Lin.row (x : Lin) : Array Value := #[.int .i64 x.tick, .int .i64 x.val, .int .i64 x.rise, .int .i64 x.run]
theorem lin_of_list (l : List Int) (n : l.length = 4) (h : ∀ a ∈ l, (Lit.int .i64 a).wf = true) : ∃ a : Lin, l = [a.tick, a.val, a.rise, a.run] ∧ a.In := by
  match l, n with
  | [a, b, c, d], _ => exact ⟨⟨a, b, c, d⟩, rfl, I64.of_wf (h a (by simp)), I64.of_wf (h b (by simp)), I64.of_wf (h c (by simp)), I64.of_wf (h d (by simp))⟩
def Lin.at (x : Lin) (t : Int) : Int := if x.run < 1 then 0 else max (Sat.clamp (x.val + Sat.floor (Sat.clamp (Sat.clamp (t - x.tick) * x.rise)) x.run)) 0
theorem Lin.floor_I64 {a : Int} (ha : I64 a) (b : Int) : I64 (Sat.floor a b) := by
  unfold Sat.floor
  split
  · unfold I64; omega
  · have := Sat.div_bd a b ha (by omega)
    unfold I64; omega

set_option maxHeartbeats 1000000 in
set_option maxRecDepth 100000 in
theorem trend_at (x : Lin) (hx : x.In) (t : Int) (ht : I64 t) (w : World) :
    Calls Try.prog 55 #[.agg x.row, .int .i64 t] w fun e w' => e = .returned (.int .i64 (x.at t)) ∧ Below w.heap.size w w' := by
  have hd : x.at t = if x.run < 1 then 0 else max (Sat.clamp (x.val + Sat.floor (Sat.clamp (Sat.clamp (t - x.tick) * x.rise)) x.run)) 0 := rfl
  obtain ⟨h1, h2, h3, h4⟩ := hx
  have f1 := sat_sub t x.tick ht h1
  have f2 := sat_mul (Sat.clamp (t - x.tick)) x.rise (Sat.clamp_I64 _) h3
  have f3 := sat_floor (Sat.clamp (Sat.clamp (t - x.tick) * x.rise)) x.run (Sat.clamp_I64 _)
  have f4 := sat_add x.val (Sat.floor (Sat.clamp (Sat.clamp (t - x.tick) * x.rise)) x.run) h2 (Lin.floor_I64 (Sat.clamp_I64 _) _)
  obtain ⟨a1, ea⟩ : ∃ y, y = Sat.clamp (t - x.tick) := ⟨_, rfl⟩
  rw [← ea] at hd
  simp only [← ea] at f1 f2 f3 f4
  obtain ⟨a2, ea2⟩ : ∃ y, y = Sat.clamp (a1 * x.rise) := ⟨_, rfl⟩
  rw [← ea2] at hd
  simp only [← ea2] at f2 f3 f4
  obtain ⟨a3, ea3⟩ : ∃ y, y = Sat.floor a2 x.run := ⟨_, rfl⟩
  rw [← ea3] at hd
  simp only [← ea3] at f3 f4
  obtain ⟨a4, ea4⟩ : ∃ y, y = Sat.clamp (x.val + a3) := ⟨_, rfl⟩
  rw [← ea4] at hd
  simp only [← ea4] at f4
  obtain ⟨r, er⟩ : ∃ y, y = x.at t := ⟨_, rfl⟩
  rw [← er] at hd ⊢
  obtain ⟨tick, val, rise, run⟩ := x
  simp only at hd f1 f2 f3 f4
  have F1 := Lib.hid f1
  have F2 := Lib.hid f2
  have F3 := Lib.hid f3
  have F4 := Lib.hid f4
  have HD := Lib.hid hd
  clear f1 f2 f3 f4 hd ea ea2 ea3 ea4 er h1 h2 h3 h4 ht
  show Calls Try.prog 55 #[.agg #[.int .i64 tick, .int .i64 val, .int .i64 rise, .int .i64 run], .int .i64 t] w _
  by_cases hr : run < 1
  · have HE := Lib.hid (HD.out.trans (if_pos hr))
    clear HD F1 F2 F3 F4
    go_enter Try.func55, Try.ntmps55
    go_wp2
    go_ret
    exact ⟨ret_int HE.out.symm, below1 _ _⟩
  · have HE := Lib.hid (HD.out.trans (if_neg hr))
    clear HD
    have hst := stab_mem (w := w) (bs := [(w.heap.size, .cells #[.int .i64 tick, .int .i64 val, .int .i64 rise, .int .i64 run] 95)])
    have M0 : Hid (Mem w (w.alloc (.cells #[.int .i64 tick, .int .i64 val, .int .i64 rise, .int .i64 run] 95)) [(w.heap.size, .cells #[.int .i64 tick, .int .i64 val, .int .i64 rise, .int .i64 run] 95)]) := (Mem.start w).alloc _
    go_enter Try.func55, Try.ntmps55
    go_wp2_with fail
    refine wp_region_E mixed [] hst (M0.out.drewN 1) ?_
    refine wpAnyE_take 0 rfl (by kernel_rfl) (by kernel_rfl) (by kernel_rfl) (fun _ _ _ h => h) hst (EffB.pure rfl (fun _ => rfl)) (.inr (EffB.pure rfl (fun _ => rfl))) ?_
    simp only [act_norm]
    refine wpAnyE_take 1 (v := .pointer (some ⟨w.heap.size, 0, none⟩)) rfl (by kernel_rfl) (by kernel_rfl) (by kernel_rfl) (fun _ _ _ h => h) hst (EffB.run rfl rfl (fun wd hS => ?_)) (.inr (EffB.run rfl rfl (fun wd hS => ?_))) ?_
    · (go_wp2; exact ⟨rfl, Below.refl _ _⟩)
    · (go_wp2; exact ⟨rfl, Below.refl _ _⟩)
    simp only [act_norm]
    refine wpAnyE_take 2 (v := .int .i64 tick) rfl (by kernel_rfl) (by kernel_rfl) (by kernel_rfl) (fun _ _ _ h => h) hst (EffB.run rfl rfl (fun wd hS => ?_)) (.inl (by kernel_rfl)) ?_
    · (have c2 : wd.cell? ⟨w.heap.size, 0, none⟩ = some (.int .i64 tick) := by rw [cell_of_row _ _ _ _ _ _ (hS.heap 0 rfl)]; rfl); go_wp2; exact ⟨rfl, Below.refl _ _⟩
    simp only [act_norm]
    refine wpAnyE_take 3 (v := .int .i64 a1) rfl (by kernel_rfl) (by kernel_rfl) (by kernel_rfl) (fun _ _ _ h => h) hst (EffB.run rfl rfl (fun wd hS => ?_)) (.inl (by kernel_rfl)) ?_
    · (go_wp2_with fail; (with_reducible refine (F1.out wd).mono ?_); rintro e w'' ⟨rfl, rfl⟩; exact ⟨rfl, Below.refl _ _⟩)
    simp only [act_norm]
    refine wpAnyE_take 4 (v := .pointer (some ⟨w.heap.size, 2, none⟩)) rfl (by kernel_rfl) (by kernel_rfl) (by kernel_rfl) (fun _ _ _ h => h) hst (EffB.run rfl rfl (fun wd hS => ?_)) (.inr (EffB.run rfl rfl (fun wd hS => ?_))) ?_
    · (go_wp2; exact ⟨rfl, Below.refl _ _⟩)
    · (go_wp2; exact ⟨rfl, Below.refl _ _⟩)
    simp only [act_norm]
    refine wpAnyE_take 5 (v := .int .i64 rise) rfl (by kernel_rfl) (by kernel_rfl) (by kernel_rfl) (fun _ _ _ h => h) hst (EffB.run rfl rfl (fun wd hS => ?_)) (.inl (by kernel_rfl)) ?_
    · (have c2 : wd.cell? ⟨w.heap.size, 2, none⟩ = some (.int .i64 rise) := by rw [cell_of_row _ _ _ _ _ _ (hS.heap 0 rfl)]; rfl); go_wp2; exact ⟨rfl, Below.refl _ _⟩
    simp only [act_norm]
    refine wpAnyE_take 6 (v := .int .i64 a2) rfl (by kernel_rfl) (by kernel_rfl) (by kernel_rfl) (fun _ _ _ h => h) hst (EffB.run rfl rfl (fun wd hS => ?_)) (.inl (by kernel_rfl)) ?_
    · (go_wp2_with fail; (with_reducible refine (F2.out wd).mono ?_); rintro e w'' ⟨rfl, rfl⟩; exact ⟨rfl, Below.refl _ _⟩)
    simp only [act_norm]
    refine wpAnyE_take 7 (v := .pointer (some ⟨w.heap.size, 3, none⟩)) rfl (by kernel_rfl) (by kernel_rfl) (by kernel_rfl) (fun _ _ _ h => h) hst (EffB.run rfl rfl (fun wd hS => ?_)) (.inr (EffB.run rfl rfl (fun wd hS => ?_))) ?_
    · (go_wp2; exact ⟨rfl, Below.refl _ _⟩)
    · (go_wp2; exact ⟨rfl, Below.refl _ _⟩)
    simp only [act_norm]
    refine wpAnyE_take 8 (v := .int .i64 run) rfl (by kernel_rfl) (by kernel_rfl) (by kernel_rfl) (fun _ _ _ h => h) hst (EffB.run rfl rfl (fun wd hS => ?_)) (.inl (by kernel_rfl)) ?_
    · (have c2 : wd.cell? ⟨w.heap.size, 3, none⟩ = some (.int .i64 run) := by rw [cell_of_row _ _ _ _ _ _ (hS.heap 0 rfl)]; rfl); go_wp2; exact ⟨rfl, Below.refl _ _⟩
    simp only [act_norm]
    refine wpAnyE_take 9 (v := .int .i64 a3) rfl (by kernel_rfl) (by kernel_rfl) (by kernel_rfl) (fun _ _ _ h => h) hst (EffB.run rfl rfl (fun wd hS => ?_)) (.inl (by kernel_rfl)) ?_
    · (go_wp2_with fail; (with_reducible refine (F3.out wd).mono ?_); rintro e w'' ⟨rfl, rfl⟩; exact ⟨rfl, Below.refl _ _⟩)
    simp only [act_norm]
    refine wpAnyE_take 10 rfl (by kernel_rfl) (by kernel_rfl) (by kernel_rfl) (fun _ _ _ h => h) hst (EffB.pure rfl (fun _ => rfl)) (.inr (EffB.pure rfl (fun _ => rfl))) ?_
    simp only [act_norm]
    refine wpAnyE_done (by kernel_rfl) (fun wd hS => ?_) _
    have M1 := Lib.hid hS
    have c1 := hS.cell 0 1 rfl rfl
    clear hS M0 F1 F2 F3
    by_cases h0 : a4 < 0
    · have HF : Hid (r = 0) := by show _ = _; rw [HE.out]; omega
      go_wp2_with ((with_reducible refine (F4.out _).mono ?_); rintro e w1 ⟨rfl, rfl⟩)
      go_ret
      exact ⟨ret_int (by first | exact HF.out.symm | (rw [HF.out]; omega)), M1.out.below⟩
    · have HF : Hid (r = a4) := by show _ = _; rw [HE.out]; omega
      go_wp2_with ((with_reducible refine (F4.out _).mono ?_); rintro e w1 ⟨rfl, rfl⟩)
      go_ret
      exact ⟨ret_int (by first | exact HF.out.symm | (rw [HF.out]; omega)), M1.out.below⟩

set_option maxHeartbeats 1000000 in
set_option maxRecDepth 100000 in
theorem ref52_at (x : Lin) (hx : x.In) (t : Int) (ht : I64 t) (w : World) :
    Calls Try.prog 56 #[.agg x.row, .int .i64 t] w fun e w' => e = .returned (.int .i64 (x.at t)) ∧ Below w.heap.size w w' := by
  have hd : x.at t = if x.run < 1 then 0 else max (Sat.clamp (x.val + Sat.floor (Sat.clamp (Sat.clamp (t - x.tick) * x.rise)) x.run)) 0 := rfl
  obtain ⟨h1, h2, h3, h4⟩ := hx
  have f1 := ref_sub t x.tick ht h1
  have f2 := ref_mul (Sat.clamp (t - x.tick)) x.rise (Sat.clamp_I64 _) h3
  have f3 := ref_floor (Sat.clamp (Sat.clamp (t - x.tick) * x.rise)) x.run (Sat.clamp_I64 _)
  have f4 := ref_add x.val (Sat.floor (Sat.clamp (Sat.clamp (t - x.tick) * x.rise)) x.run) h2 (Lin.floor_I64 (Sat.clamp_I64 _) _)
  obtain ⟨a1, ea⟩ : ∃ y, y = Sat.clamp (t - x.tick) := ⟨_, rfl⟩
  rw [← ea] at hd
  simp only [← ea] at f1 f2 f3 f4
  obtain ⟨a2, ea2⟩ : ∃ y, y = Sat.clamp (a1 * x.rise) := ⟨_, rfl⟩
  rw [← ea2] at hd
  simp only [← ea2] at f2 f3 f4
  obtain ⟨a3, ea3⟩ : ∃ y, y = Sat.floor a2 x.run := ⟨_, rfl⟩
  rw [← ea3] at hd
  simp only [← ea3] at f3 f4
  obtain ⟨a4, ea4⟩ : ∃ y, y = Sat.clamp (x.val + a3) := ⟨_, rfl⟩
  rw [← ea4] at hd
  simp only [← ea4] at f4
  obtain ⟨r, er⟩ : ∃ y, y = x.at t := ⟨_, rfl⟩
  rw [← er] at hd ⊢
  obtain ⟨tick, val, rise, run⟩ := x
  simp only at hd f1 f2 f3 f4
  have F1 := Lib.hid f1
  have F2 := Lib.hid f2
  have F3 := Lib.hid f3
  have F4 := Lib.hid f4
  have HD := Lib.hid hd
  clear f1 f2 f3 f4 hd ea ea2 ea3 ea4 er h1 h2 h3 h4 ht
  show Calls Try.prog 56 #[.agg #[.int .i64 tick, .int .i64 val, .int .i64 rise, .int .i64 run], .int .i64 t] w _
  by_cases hr : run < 1
  · have HE := Lib.hid (HD.out.trans (if_pos hr))
    clear HD F1 F2 F3 F4
    go_enter Try.func56, Try.ntmps56
    go_wp2
    go_ret
    exact ⟨ret_int HE.out.symm, below1 _ _⟩
  · have HE := Lib.hid (HD.out.trans (if_neg hr))
    clear HD
    have hst := stab_mem (w := w) (bs := [(w.heap.size, .cells #[.int .i64 tick, .int .i64 val, .int .i64 rise, .int .i64 run] 94)])
    have M0 : Hid (Mem w (w.alloc (.cells #[.int .i64 tick, .int .i64 val, .int .i64 rise, .int .i64 run] 94)) [(w.heap.size, .cells #[.int .i64 tick, .int .i64 val, .int .i64 rise, .int .i64 run] 94)]) := (Mem.start w).alloc _
    go_enter Try.func56, Try.ntmps56
    go_wp2_with fail
    refine wp_region_E mixed [] hst (M0.out.drewN 1) ?_
    refine wpAnyE_take 0 rfl (by kernel_rfl) (by kernel_rfl) (by kernel_rfl) (fun _ _ _ h => h) hst (EffB.pure rfl (fun _ => rfl)) (.inr (EffB.pure rfl (fun _ => rfl))) ?_
    simp only [act_norm]
    refine wpAnyE_take 1 (v := .pointer (some ⟨w.heap.size, 0, none⟩)) rfl (by kernel_rfl) (by kernel_rfl) (by kernel_rfl) (fun _ _ _ h => h) hst (EffB.run rfl rfl (fun wd hS => ?_)) (.inr (EffB.run rfl rfl (fun wd hS => ?_))) ?_
    · (go_wp2; exact ⟨rfl, Below.refl _ _⟩)
    · (go_wp2; exact ⟨rfl, Below.refl _ _⟩)
    simp only [act_norm]
    refine wpAnyE_take 2 (v := .int .i64 tick) rfl (by kernel_rfl) (by kernel_rfl) (by kernel_rfl) (fun _ _ _ h => h) hst (EffB.run rfl rfl (fun wd hS => ?_)) (.inl (by kernel_rfl)) ?_
    · (have c2 : wd.cell? ⟨w.heap.size, 0, none⟩ = some (.int .i64 tick) := by rw [cell_of_row _ _ _ _ _ _ (hS.heap 0 rfl)]; rfl); go_wp2; exact ⟨rfl, Below.refl _ _⟩
    simp only [act_norm]
    refine wpAnyE_take 3 (v := .int .i64 a1) rfl (by kernel_rfl) (by kernel_rfl) (by kernel_rfl) (fun _ _ _ h => h) hst (EffB.run rfl rfl (fun wd hS => ?_)) (.inl (by kernel_rfl)) ?_
    · (go_wp2_with fail; (with_reducible refine (F1.out wd).mono ?_); rintro e w'' ⟨rfl, rfl⟩; exact ⟨rfl, Below.refl _ _⟩)
    simp only [act_norm]
    refine wpAnyE_take 4 (v := .pointer (some ⟨w.heap.size, 2, none⟩)) rfl (by kernel_rfl) (by kernel_rfl) (by kernel_rfl) (fun _ _ _ h => h) hst (EffB.run rfl rfl (fun wd hS => ?_)) (.inr (EffB.run rfl rfl (fun wd hS => ?_))) ?_
    · (go_wp2; exact ⟨rfl, Below.refl _ _⟩)
    · (go_wp2; exact ⟨rfl, Below.refl _ _⟩)
    simp only [act_norm]
    refine wpAnyE_take 5 (v := .int .i64 rise) rfl (by kernel_rfl) (by kernel_rfl) (by kernel_rfl) (fun _ _ _ h => h) hst (EffB.run rfl rfl (fun wd hS => ?_)) (.inl (by kernel_rfl)) ?_
    · (have c2 : wd.cell? ⟨w.heap.size, 2, none⟩ = some (.int .i64 rise) := by rw [cell_of_row _ _ _ _ _ _ (hS.heap 0 rfl)]; rfl); go_wp2; exact ⟨rfl, Below.refl _ _⟩
    simp only [act_norm]
    refine wpAnyE_take 6 (v := .int .i64 a2) rfl (by kernel_rfl) (by kernel_rfl) (by kernel_rfl) (fun _ _ _ h => h) hst (EffB.run rfl rfl (fun wd hS => ?_)) (.inl (by kernel_rfl)) ?_
    · (go_wp2_with fail; (with_reducible refine (F2.out wd).mono ?_); rintro e w'' ⟨rfl, rfl⟩; exact ⟨rfl, Below.refl _ _⟩)
    simp only [act_norm]
    refine wpAnyE_take 7 rfl (by kernel_rfl) (by kernel_rfl) (by kernel_rfl) (fun _ _ _ h => h) hst (EffB.pure rfl (fun _ => rfl)) (.inr (EffB.pure rfl (fun _ => rfl))) ?_
    simp only [act_norm]
    refine wpAnyE_done (by kernel_rfl) (fun wd hS => ?_) _
    have M1 := Lib.hid hS
    clear hS M0 F1 F2
    go_wp2_with fail
    refine wp_region_E mixed [] hst (M1.out.drewN 1) ?_
    refine wpAnyE_take 0 (v := .pointer (some ⟨w.heap.size, 1, none⟩)) rfl (by kernel_rfl) (by kernel_rfl) (by kernel_rfl) (fun _ _ _ h => h) hst (EffB.run rfl rfl (fun wd hS => ?_)) (.inr (EffB.run rfl rfl (fun wd hS => ?_))) ?_
    · (go_wp2; exact ⟨rfl, Below.refl _ _⟩)
    · (go_wp2; exact ⟨rfl, Below.refl _ _⟩)
    simp only [act_norm]
    refine wpAnyE_take 1 (v := .int .i64 val) rfl (by kernel_rfl) (by kernel_rfl) (by kernel_rfl) (fun _ _ _ h => h) hst (EffB.run rfl rfl (fun wd hS => ?_)) (.inl (by kernel_rfl)) ?_
    · (have c2 : wd.cell? ⟨w.heap.size, 1, none⟩ = some (.int .i64 val) := by rw [cell_of_row _ _ _ _ _ _ (hS.heap 0 rfl)]; rfl); go_wp2; exact ⟨rfl, Below.refl _ _⟩
    simp only [act_norm]
    refine wpAnyE_take 2 rfl (by kernel_rfl) (by kernel_rfl) (by kernel_rfl) (fun _ _ _ h => h) hst (EffB.pure rfl (fun _ => rfl)) (.inr (EffB.pure rfl (fun _ => rfl))) ?_
    simp only [act_norm]
    refine wpAnyE_take 3 (v := .pointer (some ⟨w.heap.size, 3, none⟩)) rfl (by kernel_rfl) (by kernel_rfl) (by kernel_rfl) (fun _ _ _ h => h) hst (EffB.run rfl rfl (fun wd hS => ?_)) (.inr (EffB.run rfl rfl (fun wd hS => ?_))) ?_
    · (go_wp2; exact ⟨rfl, Below.refl _ _⟩)
    · (go_wp2; exact ⟨rfl, Below.refl _ _⟩)
    simp only [act_norm]
    refine wpAnyE_take 4 (v := .int .i64 run) rfl (by kernel_rfl) (by kernel_rfl) (by kernel_rfl) (fun _ _ _ h => h) hst (EffB.run rfl rfl (fun wd hS => ?_)) (.inl (by kernel_rfl)) ?_
    · (have c2 : wd.cell? ⟨w.heap.size, 3, none⟩ = some (.int .i64 run) := by rw [cell_of_row _ _ _ _ _ _ (hS.heap 0 rfl)]; rfl); go_wp2; exact ⟨rfl, Below.refl _ _⟩
    simp only [act_norm]
    refine wpAnyE_take 5 (v := .int .i64 a3) rfl (by kernel_rfl) (by kernel_rfl) (by kernel_rfl) (fun _ _ _ h => h) hst (EffB.run rfl rfl (fun wd hS => ?_)) (.inl (by kernel_rfl)) ?_
    · (go_wp2_with fail; (with_reducible refine (F3.out wd).mono ?_); rintro e w'' ⟨rfl, rfl⟩; exact ⟨rfl, Below.refl _ _⟩)
    simp only [act_norm]
    refine wpAnyE_take 6 (v := .int .i64 a4) rfl (by kernel_rfl) (by kernel_rfl) (by kernel_rfl) (fun _ _ _ h => h) hst (EffB.run rfl rfl (fun wd hS => ?_)) (.inl (by kernel_rfl)) ?_
    · (go_wp2_with fail; (with_reducible refine (F4.out wd).mono ?_); rintro e w'' ⟨rfl, rfl⟩; exact ⟨rfl, Below.refl _ _⟩)
    simp only [act_norm]
    refine wpAnyE_take 7 rfl (by kernel_rfl) (by kernel_rfl) (by kernel_rfl) (fun _ _ _ h => h) hst (EffB.pure rfl (fun _ => rfl)) (.inr (EffB.pure rfl (fun _ => rfl))) ?_
    simp only [act_norm]
    refine wpAnyE_done (by kernel_rfl) (fun wd hS => ?_) _
    have M2 := Lib.hid hS
    clear hS M1 F3 F4
    by_cases h0 : a4 < 0
    · have HF : Hid (r = 0) := by show _ = _; rw [HE.out]; omega
      go_wp2
      go_ret
      exact ⟨ret_int HF.out.symm, M2.out.below⟩
    · have HF : Hid (r = a4) := by show _ = _; rw [HE.out]; omega
      go_wp2
      go_ret
      exact ⟨ret_int HF.out.symm, M2.out.below⟩

def Lin.up (x : Lin) : Bool := decide (0 < x.run) && decide (0 < x.rise)
set_option maxRecDepth 100000 in
theorem trend_up (x : Lin) (w : World) : Calls Try.prog 57 #[.agg x.row] w fun e w' => e = .returned (.bool x.up) ∧ Below w.heap.size w w' := by
  obtain ⟨tick, val, rise, run⟩ := x
  show Calls Try.prog 57 #[.agg #[.int .i64 tick, .int .i64 val, .int .i64 rise, .int .i64 run]] w _
  have hd : Lin.up ⟨tick, val, rise, run⟩ = (decide (0 < run) && decide (0 < rise)) := rfl
  by_cases h1 : 0 < run
  · rw [decide_eq_true h1, Bool.true_and] at hd
    have HD := Lib.hid hd
    clear hd
    go_enter Try.func57, Try.ntmps57
    go_wp2
    go_ret
    exact ⟨ret_bool (by rw [HD.out]), below1 _ _⟩
  · rw [decide_eq_false h1, Bool.false_and] at hd
    have HD := Lib.hid hd
    clear hd
    go_enter Try.func57, Try.ntmps57
    go_wp2
    go_ret
    exact ⟨ret_bool HD.out.symm, below1 _ _⟩

/-- The tick in the middle. -/
def Trd.mid (l : List Samp) : Int := (l[0]?.getD default).tick + ((l[l.length - 1]?.getD default).tick - (l[0]?.getD default).tick) / 2
set_option maxHeartbeats 1000000 in
set_option maxRecDepth 100000 in
theorem trend_middle (p : Option Addr) (cap : Nat) (l : List Samp) (h0 : l.length ≠ 0) (hb : l.length ≤ 100000) (a d : Nat) (ha : (l[0]?.getD default).tick = (a : Int)) (hd : (l[l.length - 1]?.getD default).tick = (a : Int) + d) (hm : a + d ≤ 9223372036854775807) (w : World) (hs : Samps w p l) :
    Calls Try.prog 89 #[.slice p l.length cap] w fun e w' => e = .returned (.int .i64 (Trd.mid l)) ∧ Below w.heap.size w w' := by
  have HE : Hid (Trd.mid l = (a : Int) + (d / 2 : Nat)) := by show _ = _; unfold Trd.mid; rw [hd, ha]; omega
  obtain ⟨b, off, rfl, hbw, _⟩ := hs.cells 0 (by omega)
  obtain ⟨c0, _⟩ := hs.at 0 (by omega)
  obtain ⟨c1, _⟩ := hs.at (l.length - 1) (by omega)
  rw [ha, Nat.zero_mul, Nat.add_zero] at c0
  rw [hd] at c1
  obtain ⟨n, en⟩ : ∃ n, l.length = n + 1 := ⟨l.length - 1, by omega⟩
  rw [en, show n + 1 - 1 = n by omega] at c1
  rw [en] at hb ⊢
  obtain ⟨q, eq⟩ : ∃ q, q = d / 2 := ⟨_, rfl⟩
  rw [← eq] at HE
  have eqi : (d : Int) / 2 = (q : Int) := by omega
  have hq1 : q ≤ d := by omega
  have hsub : (a : Int) + d - a = d := by omega
  have hw := Lib.hid (show wrap64 (n : Int) = n by unfold wrap64; omega)
  clear hs ha hd en h0 eq
  go_enter Try.func89, Try.ntmps89
  go_wp2_with fail
  go_quiet (fail)
  go_wp2
  go_ret
  exact ⟨ret_int HE.out.symm, below_drewN (Below.refl _ _) _⟩
set_option maxHeartbeats 1000000 in
set_option maxRecDepth 100000 in
theorem ref52_middle (p : Option Addr) (cap : Nat) (l : List Samp) (h0 : l.length ≠ 0) (hb : l.length ≤ 100000) (a d : Nat) (ha : (l[0]?.getD default).tick = (a : Int)) (hd : (l[l.length - 1]?.getD default).tick = (a : Int) + d) (hm : a + d ≤ 9223372036854775807) (w : World) (hs : Samps w p l) :
    Calls Try.prog 91 #[.slice p l.length cap] w fun e w' => e = .returned (.int .i64 (Trd.mid l)) ∧ Below w.heap.size w w' := by
  have HE : Hid (Trd.mid l = (a : Int) + (d / 2 : Nat)) := by show _ = _; unfold Trd.mid; rw [hd, ha]; omega
  obtain ⟨b, off, rfl, hbw, _⟩ := hs.cells 0 (by omega)
  obtain ⟨c0, _⟩ := hs.at 0 (by omega)
  obtain ⟨c1, _⟩ := hs.at (l.length - 1) (by omega)
  rw [ha, Nat.zero_mul, Nat.add_zero] at c0
  rw [hd] at c1
  obtain ⟨n, en⟩ : ∃ n, l.length = n + 1 := ⟨l.length - 1, by omega⟩
  rw [en, show n + 1 - 1 = n by omega] at c1
  rw [en] at hb ⊢
  obtain ⟨q, eq⟩ : ∃ q, q = d / 2 := ⟨_, rfl⟩
  rw [← eq] at HE
  have eqi : (d : Int) / 2 = (q : Int) := by omega
  have hq1 : q ≤ d := by omega
  have hsub : (a : Int) + d - a = d := by omega
  have hw := Lib.hid (show wrap64 (n : Int) = n by unfold wrap64; omega)
  clear hs ha hd en h0 eq
  go_enter Try.func91, Try.ntmps91
  go_wp2_with fail
  go_quiet (fail)
  go_wp2
  go_ret
  exact ⟨ret_int HE.out.symm, below_drewN (Below.refl _ _) _⟩
end Go.Proofs.Ytcanbagnehdbiaa
