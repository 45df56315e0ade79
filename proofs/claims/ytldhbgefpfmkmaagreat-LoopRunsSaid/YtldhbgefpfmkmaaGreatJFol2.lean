/- Layer 16: decisions made sample by sample, walked. -/
import Derived.Test.YtldhbgefpfmkmaaGreatJFol
import Derived.Deep.CutRange
namespace Go.Proofs.YtldhbgefpfmkmaaGreat
open Go.ChangeShapes Go.WideShapes Go.ChangeAt Go.RowKit

theorem Mem.turnedF {S : Nat → Prop} {w w' w'' : World} {bs : List (Nat × Obj)} (h : Mem w w' bs) (ht : Turned S w' w'') (hS : ∀ k, S k → w.heap.size ≤ k ∧ ∀ (i : Nat) (o : Obj), bs[i]? ≠ some (k, o)) : Mem w w'' bs :=
  ⟨h.below.trans (ht.below (fun k hk => (hS k hk).1) h.below.size), fun i b o hi => (ht.block b (h.lt hi) (fun hk => (hS b hk).2 i o hi)).trans (h.has i b o hi), h.apart, h.own⟩
theorem Fol.low {w : World} {B s h r : Nat} {vs vh u : Value} {sa ro : Nat} {f : FS} (F : Fol w B s h r vs vh u sa ro f) : (∀ k, (k = s ∨ vs.ownBlock = some k) → B ≤ k ∧ k < w.heap.size) ∧ (∀ k, (k = r ∨ vh.ownBlock = some k) → B ≤ k ∧ k < w.heap.size) ∧ (∀ k, u.ownBlock = some k → B ≤ k ∧ k < w.heap.size) := by
  refine ⟨fun k hk => ?_, fun k hk => ?_, fun k hk => F.out.lt k hk⟩
  · rcases hk with rfl | hk
    · exact ⟨F.ser.low, F.ser.lt⟩
    · exact F.ser.owns.lt k hk
  · rcases hk with rfl | hk
    · exact ⟨F.his.ring.apart.2.1, F.his.ring.lt.1⟩
    · exact ⟨F.his.ring.apart.2.2 k hk, F.his.ring.lt.2 k hk⟩
theorem Mem.folPut {S : Nat → Prop} {w w' w'' : World} {b : Nat} {o : Obj} {bs : List (Nat × Obj)} {B n : Nat} (h : Mem w w' ((b, o) :: bs)) (ht : Turned S w' w'') (hS : ∀ k, S k → B ≤ k ∧ k < n) (hb : b < B) (hw : w.heap.size ≤ B) (hbs : ∀ (i c : Nat) (o : Obj), bs[i]? = some (c, o) → n ≤ c) : Mem w w'' ((b, o) :: bs) :=
  h.turnedF ht (fun k hk => by
    obtain ⟨h1, h2⟩ := hS k hk
    refine ⟨by omega, fun i o' hi => ?_⟩
    cases i with
    | zero => simp at hi; omega
    | succ i => have := hbs i k o' (by simpa using hi); omega)

theorem Fol.other {w w' : World} {B s h r : Nat} {vs vh u : Value} {sa ro : Nat} {f : FS} {X : Nat} (F : Fol w B s h r vs vh u sa ro f) (hl : (∀ k, (k = s ∨ vs.ownBlock = some k) → B ≤ k ∧ k < X) ∧ (∀ k, (k = r ∨ vh.ownBlock = some k) → B ≤ k ∧ k < X) ∧ (∀ k, u.ownBlock = some k → B ≤ k ∧ k < X)) (ht : Turned (fun k => k = X) w w') (hh : h ≠ X) : Fol w' B s h r vs vh u sa ro f :=
  ⟨F.ser.turned ht (fun e => by have := (hl.1 s (.inl rfl)).2; have h2 : s = X := e; omega) (fun k hk e => by have := (hl.1 k (.inr hk)).2; have h2 : k = X := e; omega),
    F.his.turned ht hh (fun e => by have := (hl.2.1 r (.inl rfl)).2; have h2 : r = X := e; omega) (fun k hk e => by have := (hl.2.1 k (.inr hk)).2; have h2 : k = X := e; omega),
    F.out.same ht.size (fun k hk => ht.block k (F.out.lt k hk).2 (fun e => by have := (hl.2.2 k hk).2; have h2 : k = X := e; omega)), F.sh, F.sr, F.vsx, F.vhx, F.ux⟩

end Go.Proofs.YtldhbgefpfmkmaaGreat
