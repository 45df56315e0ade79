/- Layer 17: whatever is done; what a node tells. -/
import Derived.Test.YtapgcbjlgekpeaaJLaws17
import Derived.Test.YtapgcbjlgekpeaaJBase
namespace Go.Proofs.Ytapgcbjlgekpeaa
open Go.ChangeShapes Go.WideShapes Go.ChangeAt Go.RowKit

abbrev Nac.row (a : Nac) : Array Value := #[.int .i64 a.k, .int .i64 a.s.tick, .int .i64 a.s.val, .int .i64 a.p.mn, .int .i64 a.p.mx, .int .i64 a.p.tg, .int .i64 a.p.tl, .int .i64 a.p.wi, .int .i64 a.p.ho, .int .i64 a.a.tick, .int .i64 a.a.load, .int .i64 a.a.want, .int .i64 a.a.repl, .int .i64 a.a.why]
def NS.act (rs rh : Nat) (x : NS) (a : Nac) : NS :=
  if a.k = 0 then (if Ser.code a.s = 0 then x.put rs a.s else x)
  else if a.k = 1 then (if Ser.place x.sa a.s.tick = 0 then x else x.trim a.s.tick)
  else if a.k = 2 then (if a.p.ok = true then x.set a.p else x)
  else if a.k = 3 then x.note rh a.a else x
def Nac.code (a : Nac) : Int := if a.k = 0 then Ser.code a.s else if a.k = 2 then (if a.p.ok = true then 0 else 7) else 0
def NS.gone (x : NS) (a : Nac) : Nat := if a.k = 1 then Ser.place x.sa a.s.tick else 0
def NS.frz (rs rh : Nat) (x : NS) (a : Nac) (fz : Bool) : Bool := if a.k < 0 ∨ 3 < a.k then true else if (x.act rs rh a).ver = x.ver then fz else false
def NS.gone1 (x : NS) (a : Nac) : Option Nat := if a.k = 1 then some (x.gone a) else none

theorem Nac.cases (a : Nac) : a.k = 0 ∨ a.k = 1 ∨ a.k = 2 ∨ a.k = 3 ∨ ((a.k < 0 ∨ 3 < a.k) ∧ a.k ≠ 0 ∧ a.k ≠ 1 ∧ a.k ≠ 2 ∧ a.k ≠ 3) := by omega
theorem NS.ver_ne {x y : NS} (h : y.ver = x.ver + 1) : ¬ y.ver = x.ver := by omega

theorem law17_do {w : World} {B rs rh : Nat} {i : NI} {x : NS} {fz : Bool} (h : NodeAt w B i rs rh fz x) (hv : x.ver ≤ 100000) (hB : B ≤ w.heap.size) (a : Nac) :
    Calls Try.prog 17 #[i.ptr, .agg a.row] w (DidOf w B i fz rs rh (x.frz rs rh a fz) (x.act rs rh a) a.code (x.gone a : Nat)) := by
  obtain ⟨k, s, p, a⟩ := a
  rcases Nac.cases ⟨k, s, p, a⟩ with hk | hk | hk | hk | hk
  · simp only at hk
    subst hk
    by_cases hc : Ser.code s = 0
    · have e := law17_do_0 h hv hB s p a hc
      have ex : x.act rs rh ⟨0, s, p, a⟩ = x.put rs s := by simp [NS.act, hc]
      have ef : x.frz rs rh ⟨0, s, p, a⟩ fz = false := by unfold NS.frz; rw [ex, if_neg (by simp), if_neg (NS.ver_ne rfl)]
      have eg : x.gone ⟨0, s, p, a⟩ = 0 := by simp [NS.gone]
      rw [ex, ef, eg]
      have ec : Nac.code ⟨0, s, p, a⟩ = 0 := by simp [Nac.code, hc]
      rw [ec]
      exact e
    · have e := law17_do_0bad h s p a hc
      have ex : x.act rs rh ⟨0, s, p, a⟩ = x := by simp [NS.act, hc]
      have ef : x.frz rs rh ⟨0, s, p, a⟩ fz = fz := by unfold NS.frz; rw [ex, if_neg (by simp), if_pos rfl]
      have eg : x.gone ⟨0, s, p, a⟩ = 0 := by simp [NS.gone]
      rw [ex, ef, eg]
      have ec : Nac.code ⟨0, s, p, a⟩ = Ser.code s := by simp [Nac.code]
      rw [ec]
      exact e
  · simp only at hk
    subst hk
    have ec : Nac.code ⟨1, s, p, a⟩ = 0 := by simp [Nac.code]
    by_cases hc : Ser.place x.sa s.tick = 0
    · have hz : x.sa = [] ∨ s.tick ≤ Ser.tk x.sa 0 := by
        by_cases h1 : x.sa = []
        · exact .inl h1
        · by_cases h2 : s.tick ≤ Ser.tk x.sa 0
          · exact .inr h2
          · exact absurd hc (Ser.place_pos h1 h2)
      have e := law17_do_1no h s p a hz
      have ex : x.act rs rh ⟨1, s, p, a⟩ = x := by simp [NS.act, hc]
      have ef : x.frz rs rh ⟨1, s, p, a⟩ fz = fz := by unfold NS.frz; rw [ex, if_neg (by simp), if_pos rfl]
      have eg : x.gone ⟨1, s, p, a⟩ = 0 := by simp [NS.gone, hc]
      rw [ex, ef, eg, ec]
      exact e
    · have h1 : x.sa ≠ [] := fun e => hc (Ser.place_zero (.inl e))
      have h2 : ¬ s.tick ≤ Ser.tk x.sa 0 := fun e => hc (Ser.place_zero (.inr e))
      have e := law17_do_1 h hv hB s p a h1 h2
      have ex : x.act rs rh ⟨1, s, p, a⟩ = x.trim s.tick := by simp [NS.act, hc]
      have ef : x.frz rs rh ⟨1, s, p, a⟩ fz = false := by unfold NS.frz; rw [ex, if_neg (by simp), if_neg (NS.ver_ne rfl)]
      have eg : x.gone ⟨1, s, p, a⟩ = Ser.place x.sa s.tick := by simp [NS.gone]
      rw [ex, ef, eg, ec]
      exact e
  · simp only at hk
    subst hk
    have eg : x.gone ⟨2, s, p, a⟩ = 0 := by simp [NS.gone]
    by_cases hc : p.ok = true
    · have e := law17_do_2 h hv hB s p a hc
      have ex : x.act rs rh ⟨2, s, p, a⟩ = x.set p := by simp [NS.act, hc]
      have ef : x.frz rs rh ⟨2, s, p, a⟩ fz = false := by unfold NS.frz; rw [ex, if_neg (by simp), if_neg (NS.ver_ne rfl)]
      have ec : Nac.code ⟨2, s, p, a⟩ = 0 := by simp [Nac.code, hc]
      rw [ex, ef, eg, ec]
      exact e
    · have e := law17_do_2bad h s p a (by simpa using hc)
      have ex : x.act rs rh ⟨2, s, p, a⟩ = x := by simp [NS.act, hc]
      have ef : x.frz rs rh ⟨2, s, p, a⟩ fz = fz := by unfold NS.frz; rw [ex, if_neg (by simp), if_pos rfl]
      have ec : Nac.code ⟨2, s, p, a⟩ = 7 := by simp [Nac.code, hc]
      rw [ex, ef, eg, ec]
      exact e
  · simp only at hk
    subst hk
    have e := law17_do_3 h hv hB s p a
    have eg : x.gone ⟨3, s, p, a⟩ = 0 := by simp [NS.gone]
    have ex : x.act rs rh ⟨3, s, p, a⟩ = x.note rh a := by simp [NS.act]
    have ef : x.frz rs rh ⟨3, s, p, a⟩ fz = false := by unfold NS.frz; rw [ex, if_neg (by simp), if_neg (NS.ver_ne rfl)]
    have ec : Nac.code ⟨3, s, p, a⟩ = 0 := by simp [Nac.code]
    rw [ex, ef, eg, ec]
    exact e
  · simp only at hk
    obtain ⟨h5, h0, h1, h2, h3⟩ := hk
    have e := law17_do_4 h s p a k (by simpa using h0) (by simpa using h1) (by simpa using h2) (by simpa using h3)
    have eg : x.gone ⟨k, s, p, a⟩ = 0 := by simp [NS.gone, h1]
    have ex : x.act rs rh ⟨k, s, p, a⟩ = x := by simp [NS.act, h0, h1, h2, h3]
    have ef : x.frz rs rh ⟨k, s, p, a⟩ fz = true := by unfold NS.frz; rw [if_pos h5]
    have ec : Nac.code ⟨k, s, p, a⟩ = 0 := by simp [Nac.code, h0, h2]
    rw [ex, ef, eg, ec]
    exact e

/-- What the node lets the reference have. -/
structure NS.Ok (rs rh : Nat) (x : NS) : Prop where
  srt : Ser.Sorted x.sa
  rs1 : 1 ≤ rs
  rs2 : rs ≤ 256
  lsa : x.sa.length ≤ rs
  rh1 : 1 ≤ rh
  rh2 : rh ≤ 64
  lpa : x.pa.length ≤ rh
theorem NodeAt.ok {w : World} {B rs rh : Nat} {i : NI} {x : NS} {fz : Bool} (h : NodeAt w B i rs rh fz x) (h64 : rh ≤ 64) : x.Ok rs rh := by
  obtain ⟨_, _, _, h1, _, h2, _⟩ := h.his.ring
  exact ⟨h.ser.sorted, h.ser.room1, h.ser.room2, h.ser.len, h1, h64, h2⟩

theorem ref17_do {S : Nat → Prop} {w : World} {p q : Option Addr} {cc d rs rh : Nat} {x : NS} (hS : ∀ k, S k → k < w.heap.size) (h : LAt S w p cc q d x) (ho : x.Ok rs rh) (hv : x.ver ≤ 100000) (st lo : Int) (a : Nac) :
    Calls Try.prog 18 #[.agg #[.int .i64 st, .int .i64 (rs : Nat), .int .i64 lo, .int .i64 (rh : Nat)], .agg (x.val p cc q d), .agg a.row] w (DoOf S w (x.act rs rh a) a.code (x.gone1 a)) := by
  have hn2 : x.sa.length ≤ 256 := by have := ho.lsa; have := ho.rs2; omega
  have hm2 : x.pa.length ≤ 64 := by have := ho.lpa; have := ho.rh2; omega
  obtain ⟨k, s, g, a⟩ := a
  rcases Nac.cases ⟨k, s, g, a⟩ with hk | hk | hk | hk | hk
  · simp only at hk
    subst hk
    have eg : x.gone1 ⟨0, s, g, a⟩ = none := by simp [NS.gone1]
    by_cases hc : Ser.code s = 0
    · have e := ref17_do_0 hS h rfl rfl hn2 hm2 st lo rs rh s g a x.pol rfl x.ruled rfl x.ver rfl hv hc ho.srt (by have := Ser.put_length ho.rs1 ho.lsa s; have := ho.rs2; omega)
      have ex : x.act rs rh ⟨0, s, g, a⟩ = x.put rs s := by simp [NS.act, hc]
      have ec : Nac.code ⟨0, s, g, a⟩ = 0 := by simp [Nac.code, hc]
      rw [ex, eg, ec]
      exact e
    · have e := ref17_do_0bad hS h rfl rfl hn2 hm2 st lo rs rh s g a x.pol rfl x.ruled rfl x.ver rfl hv hc
      have ex : x.act rs rh ⟨0, s, g, a⟩ = x := by simp [NS.act, hc]
      have ec : Nac.code ⟨0, s, g, a⟩ = Ser.code s := by simp [Nac.code]
      rw [ex, eg, ec]
      exact e
  · simp only at hk
    subst hk
    have ec : Nac.code ⟨1, s, g, a⟩ = 0 := by simp [Nac.code]
    have eg : x.gone1 ⟨1, s, g, a⟩ = some (Ser.place x.sa s.tick) := by simp [NS.gone1, NS.gone]
    by_cases hc : Ser.place x.sa s.tick = 0
    · have e := ref17_do_1no hS h rfl rfl hn2 hm2 st lo rs rh s g a x.pol rfl x.ruled rfl x.ver rfl hv ho.srt hc
      have ex : x.act rs rh ⟨1, s, g, a⟩ = x := by simp [NS.act, hc]
      rw [ex, eg, ec, hc]
      exact e
    · have e := ref17_do_1 hS h rfl rfl hn2 hm2 st lo rs rh s g a x.pol rfl x.ruled rfl x.ver rfl hv ho.srt hc
      have ex : x.act rs rh ⟨1, s, g, a⟩ = x.trim s.tick := by simp [NS.act, hc]
      rw [ex, eg, ec]
      exact e
  · simp only at hk
    subst hk
    have eg : x.gone1 ⟨2, s, g, a⟩ = none := by simp [NS.gone1]
    by_cases hc : g.ok = true
    · have e := ref17_do_2 hS h rfl rfl hn2 hm2 st lo rs rh s g a x.pol rfl x.ruled rfl x.ver rfl hv hc
      have ex : x.act rs rh ⟨2, s, g, a⟩ = x.set g := by simp [NS.act, hc]
      have ec : Nac.code ⟨2, s, g, a⟩ = 0 := by simp [Nac.code, hc]
      rw [ex, eg, ec]
      exact e
    · have e := ref17_do_2bad hS h rfl rfl hn2 hm2 st lo rs rh s g a x.pol rfl x.ruled rfl x.ver rfl hv (by simpa using hc)
      have ex : x.act rs rh ⟨2, s, g, a⟩ = x := by simp [NS.act, hc]
      have ec : Nac.code ⟨2, s, g, a⟩ = 7 := by simp [Nac.code, hc]
      rw [ex, eg, ec]
      exact e
  · simp only at hk
    subst hk
    have e := ref17_do_3 hS h rfl rfl hn2 hm2 st lo rs rh s g a x.pol rfl x.ruled rfl x.ver rfl hv ho.rh1 ho.lpa
    have eg : x.gone1 ⟨3, s, g, a⟩ = none := by simp [NS.gone1]
    have ex : x.act rs rh ⟨3, s, g, a⟩ = x.note rh a := by simp [NS.act]
    have ec : Nac.code ⟨3, s, g, a⟩ = 0 := by simp [Nac.code]
    rw [ex, eg, ec]
    exact e
  · simp only at hk
    obtain ⟨h5, h0, h1, h2, h3⟩ := hk
    have e := ref17_do_4 hS h rfl rfl hn2 hm2 st lo rs rh s g a x.pol rfl x.ruled rfl x.ver rfl hv k (by simpa using h0) (by simpa using h1) (by simpa using h2) (by simpa using h3)
    have eg : x.gone1 ⟨k, s, g, a⟩ = none := by simp [NS.gone1, h1]
    have ex : x.act rs rh ⟨k, s, g, a⟩ = x := by simp [NS.act, h0, h1, h2, h3]
    have ec : Nac.code ⟨k, s, g, a⟩ = 0 := by simp [Nac.code, h0, h2]
    rw [ex, eg, ec]
    exact e
theorem NS.act_ver (rs rh : Nat) (x : NS) (a : Nac) : (x.act rs rh a).ver ≤ x.ver + 1 := by
  unfold NS.act
  split
  · split
    · exact Nat.le_refl _
    · omega
  · split
    · split
      · omega
      · exact Nat.le_refl _
    · split
      · split
        · exact Nat.le_refl _
        · omega
      · split
        · exact Nat.le_refl _
        · omega
end Go.Proofs.Ytapgcbjlgekpeaa
