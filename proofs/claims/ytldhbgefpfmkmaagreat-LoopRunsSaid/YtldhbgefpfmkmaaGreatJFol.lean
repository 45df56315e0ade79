/- Layer 16: decisions made sample by sample, as data; what the program keeps of them. -/
import Derived.Test.YtldhbgefpfmkmaaGreatJSer
import Derived.Test.YtldhbgefpfmkmaaGreatJRingB
import Derived.Test.YtldhbgefpfmkmaaGreatJDec
namespace Go.Proofs.YtldhbgefpfmkmaaGreat
open Go.ChangeShapes Go.WideShapes Go.ChangeAt Go.RowKit

theorem Dec.of_In (p : Pol) (hp : p.In) (hok : p.ok = true) (l : List Samp) (h0 : l.length ≠ 0) (hin : ∀ a ∈ l, a.In) (past : List Adv) : (Dec.of p l past).In := by
  obtain ⟨e, _⟩ := Dec.of_some (past := past) hok h0
  rw [e]
  have hf := Pol.fine hok
  have hb : ∀ x, I64 (p.bound x) := by
    intro x
    obtain ⟨h1, h2, h3, h4, _⟩ := hf
    obtain ⟨g1, g2, _⟩ := hp
    unfold Pol.bound Sat.clampTo
    unfold I64 at *
    repeat' split
    all_goals omega
  refine ⟨Dec.latest_I64 l h0 hin, Dec.load_I64 p l, ?_, hb _, ?_⟩
  · show I64 (p.raw _ _)
    rw [Pol.raw_open]
    exact hb _
  · show I64 (Dec.why _ _ _ _ _)
    unfold Dec.why I64
    repeat' split
    all_goals omega

/-- What there is when some samples are done: samples, past, all decisions. -/
structure FS where
  sam : List Samp
  past : List Adv
  out : List Adv
def FS.zero : FS := ⟨[], [], []⟩
def FS.step (p : Pol) (sa ro : Nat) (f : FS) (x : Samp) : FS :=
  if Ser.code x ≠ 0 then f
  else if Dec.err p (Ser.put f.sam sa x) = 0 then ⟨Ser.put f.sam sa x, Ring.next ro f.past (Dec.of p (Ser.put f.sam sa x) f.past), f.out ++ [Dec.of p (Ser.put f.sam sa x) f.past]⟩
  else ⟨Ser.put f.sam sa x, f.past, f.out⟩
def FS.at (p : Pol) (sa ro : Nat) (l : List Samp) (k : Nat) : FS := (l.take k).foldl (FS.step p sa ro) FS.zero
def Fol.of (p : Pol) (l : List Samp) (sa ro : Int) : List Adv :=
  if sa < 1 ∨ 256 < sa ∨ ro < 1 ∨ 64 < ro then [] else (FS.at p sa.toNat ro.toNat l l.length).out
theorem FS.at_next (p : Pol) (sa ro : Nat) (l : List Samp) (k : Nat) (h : k < l.length) : FS.at p sa ro l (k + 1) = FS.step p sa ro (FS.at p sa ro l k) (l[k]?.getD default) := by
  unfold FS.at
  rw [List.take_succ_eq_append_getElem h, List.foldl_append, List.getElem?_eq_getElem h]
  rfl
theorem Ser.put_pos (L : List Samp) {room : Nat} (hr : 1 ≤ room) (x : Samp) : (Ser.put L room x).length ≠ 0 := by
  have hp := Ser.place_le L x.tick
  have h1 : 1 ≤ (Ser.ins L x).length := by
    unfold Ser.ins
    split
    · rename_i h; rw [List.length_set]; omega
    · rw [List.length_append, List.length_cons]; omega
  unfold Ser.put Ser.cutTo
  split
  · rw [List.length_drop]; omega
  · omega
theorem Ring.next_len {α : Type} {room : Nat} {L : List α} (h : L.length ≤ room) (x : α) : (Ring.next room L x).length ≤ max room 1 := by
  unfold Ring.next
  split
  · simp; omega
  · simp; omega
theorem Ring.next_mem {α : Type} {room : Nat} {L : List α} {x a : α} (h : a ∈ Ring.next room L x) : a ∈ L ∨ a = x := by
  unfold Ring.next at h
  split at h
  · simpa using h
  · rw [List.mem_append] at h
    rcases h with h | h
    · exact .inl (List.mem_of_mem_drop h)
    · exact .inr (by simpa using h)
theorem FS.good (p : Pol) (hp : p.In) (sa ro : Nat) (h1 : 1 ≤ sa) (h2 : 1 ≤ ro) (l : List Samp) (hl : ∀ a ∈ l, a.In) : ∀ k, k ≤ l.length → Ser.Sorted (FS.at p sa ro l k).sam ∧ (FS.at p sa ro l k).sam.length ≤ sa ∧ (∀ a ∈ (FS.at p sa ro l k).sam, a.In) ∧ (FS.at p sa ro l k).past.length ≤ ro ∧ (∀ a ∈ (FS.at p sa ro l k).past, a.In) ∧ (FS.at p sa ro l k).out.length ≤ k
  | 0, _ => by
    show Ser.Sorted [] ∧ _
    exact ⟨Ser.nil_sorted, by simp [FS.at, FS.zero], by simp [FS.at, FS.zero], by simp [FS.at, FS.zero], by simp [FS.at, FS.zero], by simp [FS.at, FS.zero]⟩
  | k + 1, hk => by
    obtain ⟨g1, g2, g3, g4, g5, g6⟩ := FS.good p hp sa ro h1 h2 l hl k (by omega)
    rw [FS.at_next p sa ro l k (by omega)]
    have hx : (l[k]?.getD default).In := by rw [List.getElem?_eq_getElem (by omega)]; exact hl _ (List.getElem_mem _)
    generalize l[k]?.getD default = x at hx
    generalize FS.at p sa ro l k = f at g1 g2 g3 g4 g5 g6
    unfold FS.step
    by_cases hc : Ser.code x = 0
    · rw [if_neg (by simpa using hc)]
      have q1 := Ser.put_sorted g1 sa x
      have q2 := Ser.put_length h1 g2 x
      have q3 := Ser.put_In g3 sa x hx
      by_cases he : Dec.err p (Ser.put f.sam sa x) = 0
      · rw [if_pos he]
        have hok : p.ok = true := by
          by_cases h : p.ok = true
          · exact h
          · exfalso
            unfold Dec.err at he
            rw [if_neg h] at he
            omega
        have ho := Dec.of_In p hp hok _ (Ser.put_pos f.sam h1 x) q3 f.past
        refine ⟨q1, q2, q3, ?_, ?_, ?_⟩
        · have := Ring.next_len g4 (Dec.of p (Ser.put f.sam sa x) f.past); show (Ring.next ro f.past _).length ≤ ro; omega
        · intro a ha
          rcases Ring.next_mem ha with h | h
          · exact g5 a h
          · exact h ▸ ho
        · show (f.out ++ [_]).length ≤ _; rw [List.length_append, List.length_singleton]; omega
      · rw [if_neg he]
        exact ⟨q1, q2, q3, g4, g5, by show f.out.length ≤ _; omega⟩
    · rw [if_pos (by simpa using hc)]
      exact ⟨g1, g2, g3, g4, g5, by omega⟩

/-- A series and a history beside each other, and the decisions so far. -/
structure Fol (wr : World) (B s h r : Nat) (vs vh u : Value) (sa ro : Nat) (f : FS) : Prop where
  ser : SerAt wr B s vs sa f.sam
  his : HistA wr B h r vh ro f.past
  out : Owns wr B 5 u f.out.length (advVals f.out)
  sh : s ≠ h
  sr : s ≠ r
  vsx : ∀ k, vs.ownBlock = some k → k ≠ h ∧ k ≠ r ∧ vh.ownBlock ≠ some k ∧ u.ownBlock ≠ some k
  vhx : ∀ k, vh.ownBlock = some k → k ≠ s ∧ u.ownBlock ≠ some k
  ux : ∀ k, u.ownBlock = some k → k ≠ s ∧ k ≠ h ∧ k ≠ r
section
variable {w w' : World} {B s h r : Nat} {vs vh u vs' vh' u' : Value} {sa ro : Nat} {f : FS}
theorem Fol.below (F : Fol w B s h r vs vh u sa ro f) (hb : Below w.heap.size w w') : Fol w' B s h r vs vh u sa ro f := ⟨F.ser.below hb, F.his.below hb, F.out.below hb, F.sh, F.sr, F.vsx, F.vhx, F.ux⟩
theorem stab_sampsF {q : Option Addr} {l : List Samp} : Stab (fun w' => Samps w' q l) := fun _ _ h hb => h.below hb
theorem stab_fol : Stab (fun w' => Fol w' B s h r vs vh u sa ro f) := fun _ _ h hb => h.below hb
theorem Fol.put (F : Fol w B s h r vs vh u sa ro f) {S : List Samp} (hs : SerAt w' B s vs' sa S) (ht : Turned (fun k => k = s ∨ vs.ownBlock = some k) w w') (hv : ∀ k, vs'.ownBlock = some k → vs.ownBlock = some k ∨ w.heap.size ≤ k) : Fol w' B s h r vs' vh u sa ro ⟨S, f.past, f.out⟩ := by
  have hh := lt_of_heap F.his.row
  have hr := F.his.ring.lt
  have hu := F.out.lt
  refine ⟨hs, F.his.turned ht (fun e => ?_) (fun e => ?_) (fun k hk e => ?_), F.out.same ht.size (fun k hk => ht.block k (hu k hk).2 (fun e => ?_)), F.sh, F.sr, fun k hk => ?_, F.vhx, F.ux⟩
  · rcases e with e | e
    · exact F.sh e.symm
    · exact (F.vsx _ e).1 rfl
  · rcases e with e | e
    · exact F.sr e.symm
    · exact (F.vsx _ e).2.1 rfl
  · rcases e with e | e
    · exact (F.vhx k hk).1 e
    · exact (F.vsx _ e).2.2.1 hk
  · rcases e with e | e
    · exact (F.ux k hk).1 e
    · exact (F.vsx _ e).2.2.2 hk
  · rcases hv k hk with e | e
    · exact F.vsx k e
    · refine ⟨by omega, by omega, fun h2 => ?_, fun h2 => ?_⟩
      · have := hr.2 k h2; omega
      · have := (hu k h2).2; omega
theorem Fol.add (F : Fol w B s h r vs vh u sa ro f) {H : List Adv} (hs : HistA w' B h r vh' ro H) (ht : Turned (fun k => k = r ∨ vh.ownBlock = some k) w w') (hv : ∀ k, vh'.ownBlock = some k → vh.ownBlock = some k ∨ w.heap.size ≤ k) : Fol w' B s h r vs vh' u sa ro ⟨f.sam, H, f.out⟩ := by
  have hs2 := F.ser.lt
  have hso := F.ser.owns.lt
  have hu := F.out.lt
  refine ⟨F.ser.turned ht (fun e => ?_) (fun k hk e => ?_), hs, F.out.same ht.size (fun k hk => ht.block k (hu k hk).2 (fun e => ?_)), F.sh, F.sr, fun k hk => ?_, fun k hk => ?_, F.ux⟩
  · rcases e with e | e
    · exact F.sr e
    · exact (F.vhx _ e).1 rfl
  · rcases e with e | e
    · exact (F.vsx k hk).2.1 e
    · exact (F.vsx k hk).2.2.1 e
  · rcases e with e | e
    · exact (F.ux k hk).2.2 e
    · exact (F.vhx _ e).2 hk
  · obtain ⟨a1, a2, a3, a4⟩ := F.vsx k hk
    refine ⟨a1, a2, fun h2 => ?_, a4⟩
    rcases hv k h2 with e | e
    · exact a3 e
    · have := (hso k hk).2; omega
  · rcases hv k hk with e | e
    · exact F.vhx k e
    · exact ⟨by omega, fun h2 => by have := (hu k h2).2; omega⟩
theorem Fol.app (F : Fol w B s h r vs vh u sa ro f) {O : List Adv} (hs : Owns w' B 5 u' O.length (advVals O)) (hg : w.grownBy w' u.ownBlock) (hv : u'.ownBlock = u.ownBlock ∨ ∀ k, u'.ownBlock = some k → w.heap.size ≤ k) : Fol w' B s h r vs vh u' sa ro ⟨f.sam, f.past, O⟩ := by
  have ht : Turned (fun k => u.ownBlock = some k) w w' := Turned.refl.grown hg (fun k hk _ => hk)
  have hs2 := F.ser.lt
  have hso := F.ser.owns.lt
  have hh := lt_of_heap F.his.row
  have hr := F.his.ring.lt
  refine ⟨F.ser.turned ht (fun e => (F.ux _ e).1 rfl) (fun k hk e => (F.vsx k hk).2.2.2 e), F.his.turned ht (fun e => (F.ux _ e).2.1 rfl) (fun e => (F.ux _ e).2.2 rfl) (fun k hk e => (F.vhx k hk).2 e), hs, F.sh, F.sr, fun k hk => ?_, fun k hk => ?_, fun k hk => ?_⟩
  · obtain ⟨a1, a2, a3, a4⟩ := F.vsx k hk
    refine ⟨a1, a2, a3, fun h2 => ?_⟩
    rcases hv with e | e
    · exact a4 (e ▸ h2)
    · have := e k h2; have := (hso k hk).2; omega
  · obtain ⟨a1, a2⟩ := F.vhx k hk
    refine ⟨a1, fun h2 => ?_⟩
    rcases hv with e | e
    · exact a2 (e ▸ h2)
    · have := e k h2; have := hr.2 k hk; omega
  · rcases hv with e | e
    · exact F.ux k (e ▸ hk)
    · have := e k hk; exact ⟨by omega, by omega, by omega⟩
end
end Go.Proofs.YtldhbgefpfmkmaaGreat
