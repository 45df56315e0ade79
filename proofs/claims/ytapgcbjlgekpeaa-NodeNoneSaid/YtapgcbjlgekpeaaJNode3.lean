/- Layer 17: what is done to a node. -/
import Derived.Test.YtapgcbjlgekpeaaJNode2
namespace Go.Proofs.Ytapgcbjlgekpeaa
open Go.ChangeShapes Go.WideShapes Go.ChangeAt Go.RowKit

def NS.put (x : NS) (rs : Nat) (s : Samp) : NS := { x.up with sa := Ser.put x.sa rs s }
def NS.trim (x : NS) (c : Int) : NS := { x.up with sa := x.sa.drop (Ser.place x.sa c) }
def NS.set (x : NS) (p : Pol) : NS := { x.up with pol := p, ruled := true }
def NS.note (x : NS) (rh : Nat) (a : Adv) : NS := { x.up with pa := Ring.next rh x.pa a }

/-- A series of a node that was turned. -/
theorem NodeAt.serTurn {w w' : World} {B rs rh : Nat} {j : NI} {x : NS} {L : List Samp} {v' : Value} (h : NodeAt w B j rs rh false x) (hs : SerAt w' B j.s v' rs L) (ht : Turned (fun k => k = j.s ∨ j.v.ownBlock = some k) w w') (hv : ∀ k, v'.ownBlock = some k → j.v.ownBlock = some k ∨ w.heap.size ≤ k) :
    NodeOf w B j false rs rh false { x with sa := L } { j with v := v' } w' := by
  have hlt := h.lt
  refine ⟨⟨h.low, (ht.block _ (lt_of_heap h.row) (fun e => h.apS _ e rfl)).trans h.row, hs, ?_, ?_, h.apH, ?_⟩, ht.mono (fun k _ e => ⟨rfl, .inr (.inl e)⟩), .inl fun k hk => ?_⟩
  · exact h.his.turned ht (fun e => h.apX _ e (.inl rfl)) (fun e => h.apX _ e (.inr (.inl rfl))) (fun k hk e => h.apX _ e (.inr (.inr hk)))
  · intro k hk
    rcases hk with rfl | hk
    · exact h.apS _ (.inl rfl)
    · rcases hv k hk with g | g
      · exact h.apS _ (.inr g)
      · have := (hlt j.nb (.inl rfl)).2
        intro e
        rw [e] at g
        show False
        simp only at g
        omega
  · intro k hk hk2
    rcases hk with rfl | hk
    · exact h.apX _ (.inl rfl) hk2
    · rcases hv k hk with g | g
      · exact h.apX _ (.inr g) hk2
      · have := (hlt k (.inr (.inr hk2))).2
        omega
  · rcases hk with rfl | (rfl | hk) | hk
    · exact .inl ⟨rfl, .inl rfl⟩
    · exact .inl ⟨rfl, .inr (.inl (.inl rfl))⟩
    · rcases hv k hk with g | g
      · exact .inl ⟨rfl, .inr (.inl (.inr g))⟩
      · exact .inr g
    · exact .inl ⟨rfl, .inr (.inr hk)⟩
/-- A history of a node that was turned. -/
theorem NodeAt.hisTurn {w w' : World} {B rs rh : Nat} {j : NI} {x : NS} {L : List Adv} {u' : Value} (h : NodeAt w B j rs rh false x) (hs : HistA w' B j.h j.r u' rh L) (ht : Turned (fun k => k = j.r ∨ j.u.ownBlock = some k) w w') (hv : ∀ k, u'.ownBlock = some k → j.u.ownBlock = some k ∨ w.heap.size ≤ k) :
    NodeOf w B j false rs rh false { x with pa := L } { j with u := u' } w' := by
  have hlt := h.lt
  have hin : ∀ k, (k = j.r ∨ j.u.ownBlock = some k) → j.inH k := fun k e => .inr e
  refine ⟨⟨h.low, (ht.block _ (lt_of_heap h.row) (fun e => h.apH _ (hin _ e) rfl)).trans h.row, ?_, hs, h.apS, ?_, ?_⟩, ht.mono (fun k _ e => ⟨rfl, .inr (.inr (hin _ e))⟩), .inl fun k hk => ?_⟩
  · exact h.ser.turned ht (fun e => h.apX _ (.inl rfl) (hin _ e)) (fun k hk e => h.apX _ (.inr hk) (hin _ e))
  · intro k hk
    rcases hk with rfl | rfl | hk
    · exact h.apH _ (.inl rfl)
    · exact h.apH _ (.inr (.inl rfl))
    · rcases hv k hk with g | g
      · exact h.apH _ (.inr (.inr g))
      · have := (hlt j.nb (.inl rfl)).2
        intro e
        rw [e] at g
        simp only at g
        omega
  · intro k hk hk2
    rcases hk2 with rfl | rfl | hk2
    · exact h.apX _ hk (.inl rfl)
    · exact h.apX _ hk (.inr (.inl rfl))
    · rcases hv k hk2 with g | g
      · exact h.apX _ hk (.inr (.inr g))
      · have := (hlt k (.inr (.inl hk))).2
        omega
  · rcases hk with rfl | hk | (rfl | rfl | hk)
    · exact .inl ⟨rfl, .inl rfl⟩
    · exact .inl ⟨rfl, .inr (.inl hk)⟩
    · exact .inl ⟨rfl, .inr (.inr (.inl rfl))⟩
    · exact .inl ⟨rfl, .inr (.inr (.inr (.inl rfl)))⟩
    · rcases hv k hk with g | g
      · exact .inl ⟨rfl, .inr (.inr (.inr (.inr g)))⟩
      · exact .inr g

section
variable {w : World} {B rs rh : Nat} {i : NI} {x : NS} {fz : Bool}
theorem node_put_bad (s : Samp) (hc : Ser.code s ≠ 0) (p : Value) (w : World) : Calls Try.prog 74 #[p, .int .i64 s.tick, .int .i64 s.val] w fun e w' => e = .returned (.tuple #[p, .int .i64 (Ser.code s)]) ∧ w = w' := by
  have P := Lib.hid (ser_right s)
  obtain ⟨c, ec⟩ : ∃ c, c = Ser.code s := ⟨_, rfl⟩
  simp only [← ec] at P hc ⊢
  have hcb : (c != 0) = true := by simpa using hc
  clear ec
  go_enter Try.func74, Try.ntmps74
  go_wp2_with ((with_reducible refine (P.out _).mono ?_); rintro e w1 ⟨rfl, rfl⟩)
  go_ret2
  exact ⟨rfl, rfl⟩
theorem node_put_nil (s : Samp) (hc : Ser.code s = 0) (w : World) : Calls Try.prog 74 #[.pointer none, .int .i64 s.tick, .int .i64 s.val] w fun e w' => e = .returned (.tuple #[.pointer none, .int .i64 5]) ∧ w = w' := by
  have P := ser_right s
  simp only [hc] at P
  have P1 := Lib.hid P
  have P2 := Lib.hid node_made_nil
  clear P hc
  go_enter Try.func74, Try.ntmps74
  go_wp2_with (first | ((with_reducible refine (P1.out _).mono ?_); rintro e w1 ⟨rfl, rfl⟩) | ((with_reducible refine (P2.out _).mono ?_); rintro e w1 ⟨rfl, rfl⟩))
  go_ret2
  exact ⟨rfl, rfl⟩
set_option maxHeartbeats 1000000 in
set_option maxRecDepth 100000 in
theorem node_put (h : NodeAt w B i rs rh fz x) (hv : x.ver ≤ 100000) (hB : B ≤ w.heap.size) (s : Samp) (hc : Ser.code s = 0) : Calls Try.prog 74 #[i.ptr, .int .i64 s.tick, .int .i64 s.val] w fun e w' => ∃ j : NI, e = .returned (.tuple #[j.ptr, .int .i64 0]) ∧ NodeOf w B i fz rs rh false (x.put rs s) j w' := by
  have P := ser_right s
  simp only [hc] at P
  have P1 := Lib.hid P
  have P2 := Lib.hid (node_made h)
  have P3 := Lib.hid (node_next h hv hB)
  have HC := Lib.hid hc
  show Calls Try.prog 74 #[.pointer (some ⟨i.nb, 0, none⟩), .int .i64 s.tick, .int .i64 s.val] w _
  clear h P hc
  go_enter Try.func74, Try.ntmps74
  go_wp2_with (first | ((with_reducible refine (P1.out _).mono ?_); rintro e w1 ⟨rfl, rfl⟩) | ((with_reducible refine P2.out.mono ?_); rintro e w1 ⟨rfl, rfl⟩) | fail)
  (with_reducible refine P3.out.mono ?_)
  rintro e w2 ⟨j, rfl, hN, hF⟩
  have N2 := Lib.hid hN
  have F2 := Lib.hid hF
  have c9 := hN.node.cell 9 (c := .pointer (some ⟨j.s, 0, none⟩)) rfl
  have hp := ser_step hN.node.ser (Nat.le_trans hB hN.turned.size) s
  rw [HC.out, show Ser.step rs x.up.sa s = Ser.put x.sa rs s from if_pos HC.out] at hp
  have P4 := Lib.hid hp
  clear hN hF hp P1 P2 P3
  go_wp2_with fail
  (with_reducible refine P4.out.mono ?_)
  rintro e w3 ⟨rfl, v', hs, ht, hvv⟩
  have R := Lib.hid (N2.out.trans F2.out (N2.out.node.serTurn hs ht hvv))
  clear hs ht hvv P4 c9
  go_wp2
  go_ret2
  exact ⟨{ j with v := v' }, rfl, R.out⟩

theorem Ser.place_zero {L : List Samp} {c : Int} (h : L = [] ∨ c ≤ Ser.tk L 0) : Ser.place L c = 0 := by
  by_cases hp : Ser.place L c = 0
  · exact hp
  · exfalso
    have h1 := Ser.place_lt L c 0 (by omega)
    rcases h with h | h
    · subst h; exact hp rfl
    · omega
theorem Ser.place_pos {L : List Samp} {c : Int} (h0 : L ≠ []) (h : ¬ c ≤ Ser.tk L 0) : Ser.place L c ≠ 0 := by
  intro hp
  have h1 := Ser.place_stop L c (by rw [hp]; exact List.length_pos_iff.2 h0)
  rw [hp] at h1
  exact h h1

set_option maxHeartbeats 1000000 in
set_option maxRecDepth 100000 in
theorem node_trim_no (h : NodeAt w B i rs rh fz x) (c : Int) (hz : x.sa = [] ∨ c ≤ Ser.tk x.sa 0) : Calls Try.prog 79 #[i.ptr, .int .i64 c] w fun e w' => e = .returned (.tuple #[i.ptr, .int .i64 0]) ∧ Below w.heap.size w w' := by
  have P := Lib.hid (node_samples h)
  show Calls Try.prog 79 #[.pointer (some ⟨i.nb, 0, none⟩), .int .i64 c] w _
  obtain ⟨L, eL⟩ : ∃ L, L = x.sa := ⟨_, rfl⟩
  rw [← eL] at P hz
  clear h eL
  cases L with
  | nil =>
    clear hz
    simp only [List.length_nil] at P
    go_enter Try.func79, Try.ntmps79
    go_wp2_with fail
    (with_reducible refine P.out.mono ?_)
    rintro e w2 ⟨p, d, rfl, _, _, hb⟩
    have B2 := Lib.hid hb
    clear hb
    go_wp2
    go_ret2
    exact ⟨rfl, B2.out⟩
  | cons a l =>
    have ha : c ≤ a.tick := by rcases hz with h | h; cases h; exact h
    have HP : Hid (∀ (W : World) (q : Option Addr), Samps W q (a :: l) → ∃ g o, q = some ⟨g, o, none⟩ ∧ W.cell? ⟨g, o, none⟩ = some (.int .i64 a.tick)) := fun W q hq => by
      obtain ⟨g, o, e, _, c0, _⟩ := hq.cells 0 (by simp)
      rw [Nat.zero_mul, Nat.add_zero] at c0
      exact ⟨g, o, e, c0⟩
    obtain ⟨n, en⟩ : ∃ n, (a :: l).length = n + 1 := ⟨_, rfl⟩
    rw [en] at P
    obtain ⟨t, et⟩ : ∃ t, t = a.tick := ⟨_, rfl⟩
    rw [← et] at ha HP
    have d0 : ((n : Int) + 1 == 0) = false := beq_eq_false_iff_ne.2 (by omega)
    have d1 : (0 : Int) < (n : Int) + 1 := by omega
    have d2 : decide (c ≤ t) = true := decide_eq_true ha
    clear hz en et
    go_enter Try.func79, Try.ntmps79
    go_wp2_with fail
    (with_reducible refine P.out.mono ?_)
    rintro e w2 ⟨p, d, rfl, _, hs, hb⟩
    obtain ⟨g, o, rfl, c0⟩ := HP.out w2 p hs
    have B2 := Lib.hid hb
    clear hs hb P HP
    go_wp2
    go_ret2
    exact ⟨rfl, B2.out⟩
set_option maxHeartbeats 1000000 in
set_option maxRecDepth 100000 in
theorem node_trim (h : NodeAt w B i rs rh fz x) (hv : x.ver ≤ 100000) (hB : B ≤ w.heap.size) (c : Int) (h0 : x.sa ≠ []) (hz : ¬ c ≤ Ser.tk x.sa 0) : Calls Try.prog 79 #[i.ptr, .int .i64 c] w fun e w' => ∃ j : NI, e = .returned (.tuple #[j.ptr, .int .i64 (Ser.place x.sa c)]) ∧ NodeOf w B i fz rs rh false (x.trim c) j w' := by
  have P := Lib.hid (node_samples h)
  have HH := Lib.hid h
  have PN := Lib.hid (fun (W : World) (hW : NodeAt W B i rs rh fz x) (hBW : B ≤ W.heap.size) => node_next hW hv hBW)
  have hx : (x.trim c).sa = x.sa.drop (Ser.place x.sa c) := rfl
  have HU : Hid (x.up.sa = x.sa) := rfl
  have HT : Hid ({ x.up with sa := x.sa.drop (Ser.place x.sa c) } = x.trim c) := rfl
  show Calls Try.prog 79 #[.pointer (some ⟨i.nb, 0, none⟩), .int .i64 c] w _
  obtain ⟨L, eL⟩ : ∃ L, L = x.sa := ⟨_, rfl⟩
  rw [← eL] at P hz h0 HT HU ⊢
  clear h hx eL
  cases L with
  | nil => exact absurd rfl h0
  | cons a l =>
    have ha : ¬ c ≤ a.tick := hz
    have HP : Hid (∀ (W : World) (q : Option Addr), Samps W q (a :: l) → ∃ g o, q = some ⟨g, o, none⟩ ∧ W.cell? ⟨g, o, none⟩ = some (.int .i64 a.tick)) := fun W q hq => by
      obtain ⟨g, o, e, _, c0, _⟩ := hq.cells 0 (by simp)
      rw [Nat.zero_mul, Nat.add_zero] at c0
      exact ⟨g, o, e, c0⟩
    obtain ⟨n, en⟩ : ∃ n, (a :: l).length = n + 1 := ⟨_, rfl⟩
    rw [en] at P
    obtain ⟨t, et⟩ : ∃ t, t = a.tick := ⟨_, rfl⟩
    rw [← et] at ha HP
    obtain ⟨K, eK⟩ : ∃ K, K = a :: l := ⟨_, rfl⟩
    rw [← eK] at P HP HU HT ⊢
    obtain ⟨pl, epl⟩ : ∃ pl, pl = Ser.place K c := ⟨_, rfl⟩
    rw [← epl] at HT ⊢
    have EPL := Lib.hid epl
    have EK := Lib.hid eK
    have HLE := Lib.hid (show pl ≤ K.length by rw [epl]; exact Ser.place_le K c)
    have hlen : K.length ≤ 256 := by have := HH.out.ser.len; have := HH.out.ser.room2; rw [HU.out.symm]; show x.sa.length ≤ 256; omega
    have hpl : pl ≤ 256 := by have := HLE.out; omega
    have d0 : ((n : Int) + 1 == 0) = false := beq_eq_false_iff_ne.2 (by omega)
    have d1 : (0 : Int) < (n : Int) + 1 := by omega
    have d2 : decide (c ≤ t) = false := decide_eq_false ha
    clear hz en et h0 epl eK hlen
    go_enter Try.func79, Try.ntmps79
    go_wp2_with fail
    (with_reducible refine P.out.mono ?_)
    rintro e w2 ⟨p, d, rfl, _, hs, hb⟩
    obtain ⟨g, o, rfl, c0⟩ := HP.out w2 p hs
    have H2 := Lib.hid (HH.out.below hb)
    have B2 := Lib.hid hb
    have P3 := Lib.hid (PN.out w2 H2.out (Nat.le_trans hB hb.size))
    clear hs hb P HP PN
    go_wp2_with fail
    (with_reducible refine P3.out.mono ?_)
    rintro e w3 ⟨j, rfl, hN, hF⟩
    have N2 := Lib.hid hN
    have F2 := Lib.hid hF
    have c9 := hN.node.cell 9 (c := .pointer (some ⟨j.s, 0, none⟩)) rfl
    have hp := ser_trim hN.node.ser c
    rw [HU.out, ← EPL.out] at hp
    have P4 := Lib.hid hp
    clear hN hF hp P3 c0
    go_wp2_with fail
    (with_reducible refine P4.out.mono ?_)
    rintro e w4 ⟨rfl, v', hs, ht, hvv⟩
    have hR := N2.out.trans F2.out (N2.out.node.serTurn hs ht hvv)
    rw [HT.out] at hR
    have hR2 : NodeOf w B i fz rs rh false (x.trim c) { j with v := v' } w4 := by
      refine ⟨hR.node, (Turned.of_below B2.out).trans hR.turned (fun _ _ h => h), ?_⟩
      rcases hR.foot with g | g
      · exact .inl fun k hk => (g k hk).imp id (fun h => Nat.le_trans B2.out.size h)
      · exact .inr g
    have R := Lib.hid hR2
    clear hs ht hvv P4 c9 hR hR2
    go_wp2
    go_ret2
    exact ⟨{ j with v := v' }, rfl, R.out⟩
end
end Go.Proofs.Ytapgcbjlgekpeaa
