/- General lemmas of several texts, one after another. -/
import Derived.Test.YtapgcbjlgekpeaaRows
import Derived.WalkKit
import Derived.ProofKit
import Derived.OpenShut
import Derived.SizedLaws
import Derived.Lib.Hide
import Derived.Deep.QuietTactic
import Derived.BigQuiet
import Derived.BigFrame
import Derived.Orders
import Derived.Deep.Draws
import Derived.ArgAppend
import Derived.OwnWalk
import Derived.Deep.Upon
import Derived.Laws.IdiomStrings
import Derived.Lib.SmallJoins
import Derived.Deep.Slices
import Derived.Deep.Fields
import Derived.Stop.BytesEq
/- The ground of this seat's proofs: from a walk that returns true and turns nothing below the heap to the given statement; bounds of integers. -/
namespace Go.Proofs.Ytapgcbjlgekpeaa
open Go.ChangeShapes Go.WideShapes Go.ChangeAt Go.RowKit

theorem own : ownKnob Try.prog.godebug = none := by kernel_rfl
theorem laidOut : laidOutB Try.prog = true := by kernel_rfl

section
variable {H : Type} {enc : TypeId × Value → H} {P : Program}

theorem trodAll_stays (hl : laidOutB P = true) {W W' : World} {sp' : Nat → Bool} : ∀ {ts : List TypeId} {vs : List Value} {ds : List (DataW H)} {ps : List MemPlace},
    ts.all (fun t => P.readableRec t && decide (t < P.types.size)) = true →
    DataW.TrodAll enc P W 0 (fun _ => true) true ts vs ds ps → (∀ p ∈ ps, W.sameAt W' p) → (∀ p ∈ ps, sp' p.block = true) → DataW.TrodAll enc P W' 0 sp' true ts vs ds ps
  | [], _, _, _, _, h, _, _ => by
    obtain ⟨rfl, rfl, rfl⟩ := trodAll_nil h
    exact trodAll_mk0
  | t :: ts, _, _, _, hr, h, hsame, hs => by
    obtain ⟨v, vs1, d, ds1, a, b, rfl, rfl, rfl, h1, h2⟩ := trodAll_cons h
    simp only [List.all_cons, Bool.and_eq_true, decide_eq_true_eq] at hr
    exact trodAll_cons_mk (WideElems.Trod_stays hl hr.1.1 hr.1.2 h1 (fun p hp => hsame p (List.mem_append_left _ hp)) (fun p hp => hs p (List.mem_append_left _ hp)))
      (trodAll_stays hl hr.2 h2 (fun p hp => hsame p (List.mem_append_right _ hp)) (fun p hp => hs p (List.mem_append_right _ hp)))

theorem post_of_below {f : Func} {s : ChangeSpec} {apart fresh handsOn again : Bool} {W W' : World} {args : Array Value} {v : Value} {ds gs : List (DataW H)} {before pa pv : List MemPlace}
    (hW : DataW.Whole enc P f.params.toList s.vars apart W args.toList ds gs before)
    (hres : ∀ (b : Nat) (sp : Nat → Bool) (hd : Bool), DataW.TrodAll enc P W' b sp hd f.resultTypes.toList (v.resultList f.resultTypes.size) (s.fn H (ds ++ gs)).results [])
    (hargs : ∀ sp : Nat → Bool, (∀ p ∈ before, sp p.block = true) → DataW.TrodAll enc P W' 0 sp true f.params.toList args.toList (s.fn H (ds ++ gs)).args pa)
    (hvars : ∀ sp : Nat → Bool, (∀ p ∈ before, sp p.block = true) → DataW.TrodVars enc P W' sp s.vars (s.fn H (ds ++ gs)).vars pv)
    (hps : before = pa ++ pv) (hb : Below W.heap.size W W')
    (hok : ∀ (j : Nat) (t : TypeId) (r : Value), f.resultTypes[j]? = some t → (v.resultList f.resultTypes.size)[j]? = some r → Value.okWide P W' .any 0 t r) :
    s.post enc P f apart fresh handsOn again W args v W' := by
  have hlt : ∀ p ∈ before, p.block < W.heap.size := fun p hp => hW.lt p hp
  have hold : ∀ p ∈ before, (fun b => decide (b < W.heap.size)) p.block = true := fun p hp => by simpa using hlt p hp
  refine ⟨ds, gs, before, [], pa, pv, hW, hres _ _ _, hargs _ hold, hvars _ hold, World.keptBut_mono (fun p hp => ⟨hp, ?_⟩) (hb.frame (· ∈ before)), fun _ => ?_⟩
  · rw [hps, List.mem_append] at hp
    exact Or.inr hp
  · obtain ⟨_, _, _, _, _, hz, hn⟩ := hW
    refine ⟨hok, _, _, ([] ++ pa) ++ pv, ⟨[] ++ pa, pv, trodAll_append (hargs _ (fun _ _ => rfl)) (hres _ _ _), hvars _ (fun _ _ => rfl), rfl, ?_, ?_⟩, ?_⟩
    · intro b off hp
      have hin : MemPlace.cell b off ∈ before := by rw [hps]; simpa using hp
      rw [hb.frozen (hlt _ hin)]
      exact hz b off hin
    · intro ha
      have := hn ha
      rw [hps] at this
      simpa using this
    · intro p hp _
      rw [hps]
      simpa using hp

/-- What a law's walk must show: whatever the arguments, true; nothing turned that was there. -/
def Law (enc : TypeId × Value → H) (P : Program) (F : FuncId) (fn : Func) : Prop :=
  ∀ (W : World) (base : Nat) (args : Array Value) (ds : List (DataW H)) (p : List MemPlace),
    (∀ (j : Nat) t v, fn.params[j]? = some t → args[j]? = some v → Value.okWide P W .any base t v) →
    DataW.TrodAll enc P W 0 (fun _ => true) true fn.params.toList args.toList ds p →
    (DataW.weightsEach P fn.params.toList ds).all (· ≤ reachBytes) = true →
    W.noneFrozen p → (∀ x ∈ p, x.block < W.heap.size) →
    Calls P F args W fun e W' => e = .returned (.bool true) ∧ Below W.heap.size W W'
end

theorem trodAll_length {H : Type} {enc : TypeId × Value → H} {P : Program} {w : World} {b : Nat} {sp : Nat → Bool} {hd : Bool} : ∀ {ts : List TypeId} {vs : List Value} {ds : List (DataW H)} {ps : List MemPlace},
    DataW.TrodAll enc P w b sp hd ts vs ds ps → ds.length = ts.length
  | [], _, _, _, h => by obtain ⟨_, rfl, _⟩ := trodAll_nil h; rfl
  | _ :: _, _, _, _, h => by
    obtain ⟨_, _, _, _, _, _, _, rfl, _, _, h2⟩ := trodAll_cons h
    simp [trodAll_length h2]

theorem law_lift {H : Type} {enc : TypeId × Value → H} {C : Checked} {os : Os} {F : FuncId} {fn : Func} {spec : ChangeSpec} {tb : TypeId}
    (own : ownKnob C.prog.godebug = none) (started : os.Started) (noInit : C.prog.inits.idxOf? F = none) (hfn : C.prog.funcs[F]? = some fn)
    (hl : laidOutB C.prog = true) (hpar : fn.params.toList.all (fun t => C.prog.readableRec t && decide (t < C.prog.types.size)) = true)
    (hres : fn.resultTypes = #[tb]) (htb : C.prog.underlying tb = some .bool) (hvars : spec.vars = [])
    (hspec : ∀ ds : List (DataW H), ds.length = fn.params.toList.length → spec.fn H ds = { results := [.lit (.bool true)], args := ds })
    (witness : ∃ (w : World) (tape : Tape) (i : Input), w.os = os ∧ (w.forCall tape i).Shaped C.prog ∧ i.vars = [] ∧ Input.okWide C.prog (w.forCall tape i) .any w.heap.size F i ∧
      spec.pre6 enc C.prog fn [] false (w.forCall tape i).memory i.args ∧ ({} : Assume).holds C.prog (lone (Frame.enter C.prog F i.args .normal) [] (w.forCall tape i)))
    (walk : Law enc C.prog F fn) :
    ReturnsInHanded {} C os F .any (spec.pre6 enc C.prog fn [] false) (spec.post enc C.prog fn false true false false) := by
  refine returnsInHanded_of_change_sized own started noInit hfn witness ?_
  intro W base args ds gs before hval hW _ hwt _
  have hW' := hW
  obtain ⟨p, q, hA, hV, rfl, hfz, hnd⟩ := hW
  have hV' := hV
  rw [hvars] at hV'
  obtain ⟨rfl, rfl⟩ := trodVars_none hV'
  have hvt : spec.plain.varTypes C.prog = [] := by
    simp [DataSpec.varTypes, ChangeSpec.plain, hvars]
  rw [hvt, List.append_nil, List.append_nil] at hwt
  have hs := hspec ds (trodAll_length hA)
  have hlt : ∀ x ∈ p, x.block < W.heap.size := fun x hx => hW'.lt x (by simpa using hx)
  refine (walk W base args ds p hval hA hwt (fun b off h => hfz b off (by simpa using h)) hlt).mono fun e W' ⟨he, hb⟩ => ?_
  subst he
  refine ⟨_, rfl, post_of_below (pa := p) (pv := []) hW' (fun _ _ _ => ?_) (fun sp hsp => ?_) (fun _ _ => ?_) rfl hb (ok_one hres rfl (okWide_bool_mk htb _))⟩
  · rw [List.append_nil, hs, hres]
    exact trodAll_cons_mk (shut_bool htb _) trodAll_mk0
  · rw [List.append_nil, hs]
    exact trodAll_stays hl hpar hA (fun x hx => hb.same (hlt x hx)) (fun x hx => hsp x (by simpa using hx))
  · rw [List.append_nil, hs, hvars]
    rfl

/-! ### Bounds of integers -/
def I64 (a : Int) : Prop := -9223372036854775808 ≤ a ∧ a ≤ 9223372036854775807
def U64 (a : Int) : Prop := 0 ≤ a ∧ a ≤ 18446744073709551615
def U8 (a : Int) : Prop := 0 ≤ a ∧ a ≤ 255

instance (a : Int) : Decidable (I64 a) := by unfold I64; infer_instance
instance (a : Int) : Decidable (U64 a) := by unfold U64; infer_instance
theorem I64.of_wf {a : Int} (h : (Lit.int .i64 a).wf = true) : I64 a := by
  simpa [I64, Lit.wf, IntKind.min, IntKind.max, IntKind.signed, IntKind.bits] using h
theorem U64.of_wf {a : Int} (h : (Lit.int .u64 a).wf = true) : U64 a := by
  simpa [U64, Lit.wf, IntKind.min, IntKind.max, IntKind.signed, IntKind.bits] using h
theorem U8.of_wf {a : Int} (h : (Lit.int .u8 a).wf = true) : U8 a := by
  simpa [U8, Lit.wf, IntKind.min, IntKind.max, IntKind.signed, IntKind.bits] using h

theorem ret_int {k : IntKind} {a b : Int} (h : a = b) : Ending.returned (.int k a) = .returned (.int k b) := by rw [h]
theorem ret_bool {a b : Bool} (h : a = b) : Ending.returned (.bool a) = .returned (.bool b) := by rw [h]

theorem ret_two {a b a' b' : Value} (h : a = a') (h' : b = b') : Ending.returned (.tuple #[a, b]) = .returned (.tuple #[a', b']) := by rw [h, h']
theorem int_eq {k : IntKind} {a b : Int} (h : a = b) : Value.int k a = .int k b := by rw [h]
theorem bool_eq {a b : Bool} (h : a = b) : Value.bool a = .bool b := by rw [h]

/-- A slice of n things of sz cells each, whose cells read as c says. -/
def Sl (w : World) (p : Option Addr) (n sz : Nat) (c : Nat → Value) : Prop :=
  n = 0 ∨ ∃ b off, p = some ⟨b, off, none⟩ ∧ b < w.heap.size ∧ ∀ j, j < n * sz → w.cell? ⟨b, off + j, none⟩ = some (c j)

theorem Sl.pos {w : World} {p : Option Addr} {n sz : Nat} {c : Nat → Value} (h : Sl w p n sz c) (hn : 0 < n) :
    ∃ b off, p = some ⟨b, off, none⟩ ∧ b < w.heap.size ∧ ∀ j, j < n * sz → w.cell? ⟨b, off + j, none⟩ = some (c j) := by
  rcases h with h | h
  · omega
  · exact h

theorem Sl.below {w w' : World} {p : Option Addr} {n sz : Nat} {c : Nat → Value} (h : Sl w p n sz c) (hb : Below w.heap.size w w') : Sl w' p n sz c := by
  rcases h with h | ⟨b, off, hp, hlt, hc⟩
  · exact Or.inl h
  · exact Or.inr ⟨b, off, hp, Nat.lt_of_lt_of_le hlt hb.size, fun j hj => by rw [hb.cell (p := ⟨b, off + j, none⟩) hlt]; exact hc j hj⟩

/-- A slice of integers that came in. -/
def Ints (k : IntKind) (w : World) (p : Option Addr) (l : List Int) : Prop := Sl w p l.length 1 (fun j => .int k (l[j]?.getD 0))

theorem open_Ints {H : Type} {enc : TypeId × Value → H} {P : Program} {w : World} {base : Nat} {sp : Nat → Bool} {hd : Bool} {r : Reach} {b0 : Nat} {t e : TypeId} {k : IntKind} {v : Value} {d : DataW H} {ps : List MemPlace}
    (ht : P.underlying t = some (.slice e)) (he : P.underlying e = some (.int k)) (hc : P.cellsOf e = 1) (hv : Value.okWide P w r b0 t v) (h : DataW.Trod enc P w base sp hd t v d ps) (hlt : ∀ x ∈ ps, x.block < w.heap.size) :
    ∃ (p : Option Addr) (cap : Nat) (l : List Int), v = .slice p l.length cap ∧ Ints k w p l ∧ (∀ n ∈ l, (Lit.int k n).wf = true) ∧ l.length ≤ 9223372036854775807 := by
  obtain ⟨a0, len, cap, rfl⟩ := okWide_slice ht hv
  obtain ⟨fuel, hf⟩ := h
  rcases open_ints ht he hc hf with ⟨hcs, hx⟩ | ⟨a, len', cap', zs, hcs, _, hl, hm, hz, hx, hcell, hwz⟩
  · simp [Value.cells] at hcs
    obtain ⟨rfl, rfl, rfl⟩ := hcs
    exact ⟨none, 0, [], rfl, Or.inl rfl, by simp, by simp⟩
  · simp [Value.cells] at hcs
    obtain ⟨rfl, rfl, rfl⟩ := hcs
    simp only [Prod.mk.injEq] at hx
    obtain ⟨_, hps⟩ := hx
    have hlen : (zs.take len).length = len := by
      rw [List.length_take, hz]
      split <;> omega
    unfold maxLen at hm
    refine ⟨some a, cap, zs.take len, by rw [hlen], ?_, fun n hn => hwz n (List.mem_of_mem_take hn), by omega⟩
    unfold Ints
    rw [hlen]
    by_cases h0 : len = 0
    · exact Or.inl h0
    · have hzl : len ≤ zs.length := by rw [hz]; split <;> omega
      have h1 := hcell 0 (by omega)
      have hspot : a.spot = none := by
        cases hs : a.spot with
        | none => rfl
        | some s =>
          exfalso
          unfold World.cell? at h1
          simp only [Addr.add, if_true] at h1
          split at h1 <;> simp [hs] at h1
      obtain ⟨b, off, s⟩ := a
      subst hspot
      refine Or.inr ⟨b, off, rfl, ?_, fun j hj => ?_⟩
      · exact hlt (.cell b off) (by rw [hps]; unfold MemPlace.row; simp only [List.mem_map, List.mem_range]; exact ⟨0, by omega, by simp⟩)
      · have := hcell j (by omega)
        have e : (⟨b, off, none⟩ : Addr).add j = ⟨b, off + j, none⟩ := by
          unfold Addr.add
          split
          · rename_i h; subst h; rfl
          · rfl
        rw [e] at this
        rw [this]
        simp only [List.getD_eq_getElem?_getD]
        rw [List.getElem?_take_of_lt (by omega)]

#print axioms law_lift
end Go.Proofs.Ytapgcbjlgekpeaa

/- Laws on blocks of memory, of whatever program. -/
namespace Go.Proofs.Ytapgcbjlgekpeaa
open Go.ChangeShapes Go.WideShapes Go.ChangeAt Go.RowKit

theorem heap_alloc_at (w : World) (o : Obj) (n : Nat) (h : n = w.heap.size) : (w.alloc o).heap[n]? = some o := by subst h; show (w.heap.push o)[_]? = _; simp
theorem heap_alloc_past (w : World) (o : Obj) (n : Nat) (h : n < w.heap.size) : (w.alloc o).heap[n]? = w.heap[n]? := by
  show (w.heap.push o)[n]? = _
  rw [Array.getElem?_push, if_neg (by omega)]

theorem setRow_alloc_at (w : World) (c cs : Array Value) (t : TypeId) (n : Nat) (h : n = w.heap.size) : (w.alloc (.cells c t)).setRow n cs = w.alloc (.cells cs t) := by
  subst h
  unfold World.setRow World.alloc
  congr 1
  apply Array.ext_getElem?
  intro k
  simp only [Array.getElem?_modify, Array.getElem?_push]
  by_cases hk : k = w.heap.size
  · subst hk; simp
  · simp [hk, Ne.symm hk]
theorem setRow_alloc_past (w : World) (o : Obj) (cs : Array Value) (n : Nat) (h : n < w.heap.size) : (w.alloc o).setRow n cs = (w.setRow n cs).alloc o := by
  unfold World.setRow World.alloc
  congr 1
  apply Array.ext_getElem?
  intro k
  simp only [Array.getElem?_modify, Array.getElem?_push, Array.size_modify]
  by_cases hk : k = w.heap.size
  · subst hk
    simp [Nat.ne_of_lt h]
  · simp [hk]

theorem heap_1_0 (w : World) (o0 : Obj) : (w.alloc o0).heap[w.heap.size]? = some o0 := by
  rw [heap_alloc_at _ _ _ (by first | rfl | (simp [World.size_alloc]; try omega))]
theorem row_1_0 (w : World) (c cs : Array Value) (t : TypeId) : (w.alloc (.cells c t)).setRow w.heap.size cs = (w.alloc (.cells cs t)) := by
  rw [setRow_alloc_at _ _ _ _ _ (by first | rfl | (simp [World.size_alloc]; try omega))]
theorem heap_2_0 (w : World) (o0 o1 : Obj) : ((w.alloc o0).alloc o1).heap[w.heap.size]? = some o0 := by
  rw [heap_alloc_past _ _ _ (by first | rfl | (simp [World.size_alloc]; try omega)), heap_alloc_at _ _ _ (by first | rfl | (simp [World.size_alloc]; try omega))]
theorem row_2_0 (w : World) (o1 : Obj) (c cs : Array Value) (t : TypeId) : ((w.alloc (.cells c t)).alloc o1).setRow w.heap.size cs = ((w.alloc (.cells cs t)).alloc o1) := by
  rw [setRow_alloc_past _ _ _ _ (by first | rfl | (simp [World.size_alloc]; try omega)), setRow_alloc_at _ _ _ _ _ (by first | rfl | (simp [World.size_alloc]; try omega))]
theorem heap_2_1 (w : World) (o0 o1 : Obj) : ((w.alloc o0).alloc o1).heap[w.heap.size + 1]? = some o1 := by
  rw [heap_alloc_at _ _ _ (by first | rfl | (simp [World.size_alloc]; try omega))]
theorem row_2_1 (w : World) (o0 : Obj) (c cs : Array Value) (t : TypeId) : ((w.alloc o0).alloc (.cells c t)).setRow (w.heap.size + 1) cs = ((w.alloc o0).alloc (.cells cs t)) := by
  rw [setRow_alloc_at _ _ _ _ _ (by first | rfl | (simp [World.size_alloc]; try omega))]
theorem heap_3_0 (w : World) (o0 o1 o2 : Obj) : (((w.alloc o0).alloc o1).alloc o2).heap[w.heap.size]? = some o0 := by
  rw [heap_alloc_past _ _ _ (by first | rfl | (simp [World.size_alloc]; try omega)), heap_alloc_past _ _ _ (by first | rfl | (simp [World.size_alloc]; try omega)), heap_alloc_at _ _ _ (by first | rfl | (simp [World.size_alloc]; try omega))]
theorem row_3_0 (w : World) (o1 o2 : Obj) (c cs : Array Value) (t : TypeId) : (((w.alloc (.cells c t)).alloc o1).alloc o2).setRow w.heap.size cs = (((w.alloc (.cells cs t)).alloc o1).alloc o2) := by
  rw [setRow_alloc_past _ _ _ _ (by first | rfl | (simp [World.size_alloc]; try omega)), setRow_alloc_past _ _ _ _ (by first | rfl | (simp [World.size_alloc]; try omega)), setRow_alloc_at _ _ _ _ _ (by first | rfl | (simp [World.size_alloc]; try omega))]
theorem heap_3_1 (w : World) (o0 o1 o2 : Obj) : (((w.alloc o0).alloc o1).alloc o2).heap[w.heap.size + 1]? = some o1 := by
  rw [heap_alloc_past _ _ _ (by first | rfl | (simp [World.size_alloc]; try omega)), heap_alloc_at _ _ _ (by first | rfl | (simp [World.size_alloc]; try omega))]
theorem row_3_1 (w : World) (o0 o2 : Obj) (c cs : Array Value) (t : TypeId) : (((w.alloc o0).alloc (.cells c t)).alloc o2).setRow (w.heap.size + 1) cs = (((w.alloc o0).alloc (.cells cs t)).alloc o2) := by
  rw [setRow_alloc_past _ _ _ _ (by first | rfl | (simp [World.size_alloc]; try omega)), setRow_alloc_at _ _ _ _ _ (by first | rfl | (simp [World.size_alloc]; try omega))]
theorem heap_3_2 (w : World) (o0 o1 o2 : Obj) : (((w.alloc o0).alloc o1).alloc o2).heap[w.heap.size + 2]? = some o2 := by
  rw [heap_alloc_at _ _ _ (by first | rfl | (simp [World.size_alloc]; try omega))]
theorem row_3_2 (w : World) (o0 o1 : Obj) (c cs : Array Value) (t : TypeId) : (((w.alloc o0).alloc o1).alloc (.cells c t)).setRow (w.heap.size + 2) cs = (((w.alloc o0).alloc o1).alloc (.cells cs t)) := by
  rw [setRow_alloc_at _ _ _ _ _ (by first | rfl | (simp [World.size_alloc]; try omega))]
theorem heap_4_0 (w : World) (o0 o1 o2 o3 : Obj) : ((((w.alloc o0).alloc o1).alloc o2).alloc o3).heap[w.heap.size]? = some o0 := by
  rw [heap_alloc_past _ _ _ (by first | rfl | (simp [World.size_alloc]; try omega)), heap_alloc_past _ _ _ (by first | rfl | (simp [World.size_alloc]; try omega)), heap_alloc_past _ _ _ (by first | rfl | (simp [World.size_alloc]; try omega)), heap_alloc_at _ _ _ (by first | rfl | (simp [World.size_alloc]; try omega))]
theorem row_4_0 (w : World) (o1 o2 o3 : Obj) (c cs : Array Value) (t : TypeId) : ((((w.alloc (.cells c t)).alloc o1).alloc o2).alloc o3).setRow w.heap.size cs = ((((w.alloc (.cells cs t)).alloc o1).alloc o2).alloc o3) := by
  rw [setRow_alloc_past _ _ _ _ (by first | rfl | (simp [World.size_alloc]; try omega)), setRow_alloc_past _ _ _ _ (by first | rfl | (simp [World.size_alloc]; try omega)), setRow_alloc_past _ _ _ _ (by first | rfl | (simp [World.size_alloc]; try omega)), setRow_alloc_at _ _ _ _ _ (by first | rfl | (simp [World.size_alloc]; try omega))]
theorem heap_4_1 (w : World) (o0 o1 o2 o3 : Obj) : ((((w.alloc o0).alloc o1).alloc o2).alloc o3).heap[w.heap.size + 1]? = some o1 := by
  rw [heap_alloc_past _ _ _ (by first | rfl | (simp [World.size_alloc]; try omega)), heap_alloc_past _ _ _ (by first | rfl | (simp [World.size_alloc]; try omega)), heap_alloc_at _ _ _ (by first | rfl | (simp [World.size_alloc]; try omega))]
theorem row_4_1 (w : World) (o0 o2 o3 : Obj) (c cs : Array Value) (t : TypeId) : ((((w.alloc o0).alloc (.cells c t)).alloc o2).alloc o3).setRow (w.heap.size + 1) cs = ((((w.alloc o0).alloc (.cells cs t)).alloc o2).alloc o3) := by
  rw [setRow_alloc_past _ _ _ _ (by first | rfl | (simp [World.size_alloc]; try omega)), setRow_alloc_past _ _ _ _ (by first | rfl | (simp [World.size_alloc]; try omega)), setRow_alloc_at _ _ _ _ _ (by first | rfl | (simp [World.size_alloc]; try omega))]
theorem heap_4_2 (w : World) (o0 o1 o2 o3 : Obj) : ((((w.alloc o0).alloc o1).alloc o2).alloc o3).heap[w.heap.size + 2]? = some o2 := by
  rw [heap_alloc_past _ _ _ (by first | rfl | (simp [World.size_alloc]; try omega)), heap_alloc_at _ _ _ (by first | rfl | (simp [World.size_alloc]; try omega))]
theorem row_4_2 (w : World) (o0 o1 o3 : Obj) (c cs : Array Value) (t : TypeId) : ((((w.alloc o0).alloc o1).alloc (.cells c t)).alloc o3).setRow (w.heap.size + 2) cs = ((((w.alloc o0).alloc o1).alloc (.cells cs t)).alloc o3) := by
  rw [setRow_alloc_past _ _ _ _ (by first | rfl | (simp [World.size_alloc]; try omega)), setRow_alloc_at _ _ _ _ _ (by first | rfl | (simp [World.size_alloc]; try omega))]
theorem heap_4_3 (w : World) (o0 o1 o2 o3 : Obj) : ((((w.alloc o0).alloc o1).alloc o2).alloc o3).heap[w.heap.size + 3]? = some o3 := by
  rw [heap_alloc_at _ _ _ (by first | rfl | (simp [World.size_alloc]; try omega))]
theorem row_4_3 (w : World) (o0 o1 o2 : Obj) (c cs : Array Value) (t : TypeId) : ((((w.alloc o0).alloc o1).alloc o2).alloc (.cells c t)).setRow (w.heap.size + 3) cs = ((((w.alloc o0).alloc o1).alloc o2).alloc (.cells cs t)) := by
  rw [setRow_alloc_at _ _ _ _ _ (by first | rfl | (simp [World.size_alloc]; try omega))]
theorem heap_5_0 (w : World) (o0 o1 o2 o3 o4 : Obj) : (((((w.alloc o0).alloc o1).alloc o2).alloc o3).alloc o4).heap[w.heap.size]? = some o0 := by
  rw [heap_alloc_past _ _ _ (by first | rfl | (simp [World.size_alloc]; try omega)), heap_alloc_past _ _ _ (by first | rfl | (simp [World.size_alloc]; try omega)), heap_alloc_past _ _ _ (by first | rfl | (simp [World.size_alloc]; try omega)), heap_alloc_past _ _ _ (by first | rfl | (simp [World.size_alloc]; try omega)), heap_alloc_at _ _ _ (by first | rfl | (simp [World.size_alloc]; try omega))]
theorem row_5_0 (w : World) (o1 o2 o3 o4 : Obj) (c cs : Array Value) (t : TypeId) : (((((w.alloc (.cells c t)).alloc o1).alloc o2).alloc o3).alloc o4).setRow w.heap.size cs = (((((w.alloc (.cells cs t)).alloc o1).alloc o2).alloc o3).alloc o4) := by
  rw [setRow_alloc_past _ _ _ _ (by first | rfl | (simp [World.size_alloc]; try omega)), setRow_alloc_past _ _ _ _ (by first | rfl | (simp [World.size_alloc]; try omega)), setRow_alloc_past _ _ _ _ (by first | rfl | (simp [World.size_alloc]; try omega)), setRow_alloc_past _ _ _ _ (by first | rfl | (simp [World.size_alloc]; try omega)), setRow_alloc_at _ _ _ _ _ (by first | rfl | (simp [World.size_alloc]; try omega))]
theorem heap_5_1 (w : World) (o0 o1 o2 o3 o4 : Obj) : (((((w.alloc o0).alloc o1).alloc o2).alloc o3).alloc o4).heap[w.heap.size + 1]? = some o1 := by
  rw [heap_alloc_past _ _ _ (by first | rfl | (simp [World.size_alloc]; try omega)), heap_alloc_past _ _ _ (by first | rfl | (simp [World.size_alloc]; try omega)), heap_alloc_past _ _ _ (by first | rfl | (simp [World.size_alloc]; try omega)), heap_alloc_at _ _ _ (by first | rfl | (simp [World.size_alloc]; try omega))]
theorem row_5_1 (w : World) (o0 o2 o3 o4 : Obj) (c cs : Array Value) (t : TypeId) : (((((w.alloc o0).alloc (.cells c t)).alloc o2).alloc o3).alloc o4).setRow (w.heap.size + 1) cs = (((((w.alloc o0).alloc (.cells cs t)).alloc o2).alloc o3).alloc o4) := by
  rw [setRow_alloc_past _ _ _ _ (by first | rfl | (simp [World.size_alloc]; try omega)), setRow_alloc_past _ _ _ _ (by first | rfl | (simp [World.size_alloc]; try omega)), setRow_alloc_past _ _ _ _ (by first | rfl | (simp [World.size_alloc]; try omega)), setRow_alloc_at _ _ _ _ _ (by first | rfl | (simp [World.size_alloc]; try omega))]
theorem heap_5_2 (w : World) (o0 o1 o2 o3 o4 : Obj) : (((((w.alloc o0).alloc o1).alloc o2).alloc o3).alloc o4).heap[w.heap.size + 2]? = some o2 := by
  rw [heap_alloc_past _ _ _ (by first | rfl | (simp [World.size_alloc]; try omega)), heap_alloc_past _ _ _ (by first | rfl | (simp [World.size_alloc]; try omega)), heap_alloc_at _ _ _ (by first | rfl | (simp [World.size_alloc]; try omega))]
theorem row_5_2 (w : World) (o0 o1 o3 o4 : Obj) (c cs : Array Value) (t : TypeId) : (((((w.alloc o0).alloc o1).alloc (.cells c t)).alloc o3).alloc o4).setRow (w.heap.size + 2) cs = (((((w.alloc o0).alloc o1).alloc (.cells cs t)).alloc o3).alloc o4) := by
  rw [setRow_alloc_past _ _ _ _ (by first | rfl | (simp [World.size_alloc]; try omega)), setRow_alloc_past _ _ _ _ (by first | rfl | (simp [World.size_alloc]; try omega)), setRow_alloc_at _ _ _ _ _ (by first | rfl | (simp [World.size_alloc]; try omega))]
theorem heap_5_3 (w : World) (o0 o1 o2 o3 o4 : Obj) : (((((w.alloc o0).alloc o1).alloc o2).alloc o3).alloc o4).heap[w.heap.size + 3]? = some o3 := by
  rw [heap_alloc_past _ _ _ (by first | rfl | (simp [World.size_alloc]; try omega)), heap_alloc_at _ _ _ (by first | rfl | (simp [World.size_alloc]; try omega))]
theorem row_5_3 (w : World) (o0 o1 o2 o4 : Obj) (c cs : Array Value) (t : TypeId) : (((((w.alloc o0).alloc o1).alloc o2).alloc (.cells c t)).alloc o4).setRow (w.heap.size + 3) cs = (((((w.alloc o0).alloc o1).alloc o2).alloc (.cells cs t)).alloc o4) := by
  rw [setRow_alloc_past _ _ _ _ (by first | rfl | (simp [World.size_alloc]; try omega)), setRow_alloc_at _ _ _ _ _ (by first | rfl | (simp [World.size_alloc]; try omega))]
theorem heap_5_4 (w : World) (o0 o1 o2 o3 o4 : Obj) : (((((w.alloc o0).alloc o1).alloc o2).alloc o3).alloc o4).heap[w.heap.size + 4]? = some o4 := by
  rw [heap_alloc_at _ _ _ (by first | rfl | (simp [World.size_alloc]; try omega))]
theorem row_5_4 (w : World) (o0 o1 o2 o3 : Obj) (c cs : Array Value) (t : TypeId) : (((((w.alloc o0).alloc o1).alloc o2).alloc o3).alloc (.cells c t)).setRow (w.heap.size + 4) cs = (((((w.alloc o0).alloc o1).alloc o2).alloc o3).alloc (.cells cs t)) := by
  rw [setRow_alloc_at _ _ _ _ _ (by first | rfl | (simp [World.size_alloc]; try omega))]
theorem heap_6_0 (w : World) (o0 o1 o2 o3 o4 o5 : Obj) : ((((((w.alloc o0).alloc o1).alloc o2).alloc o3).alloc o4).alloc o5).heap[w.heap.size]? = some o0 := by
  rw [heap_alloc_past _ _ _ (by first | rfl | (simp [World.size_alloc]; try omega)), heap_alloc_past _ _ _ (by first | rfl | (simp [World.size_alloc]; try omega)), heap_alloc_past _ _ _ (by first | rfl | (simp [World.size_alloc]; try omega)), heap_alloc_past _ _ _ (by first | rfl | (simp [World.size_alloc]; try omega)), heap_alloc_past _ _ _ (by first | rfl | (simp [World.size_alloc]; try omega)), heap_alloc_at _ _ _ (by first | rfl | (simp [World.size_alloc]; try omega))]
theorem row_6_0 (w : World) (o1 o2 o3 o4 o5 : Obj) (c cs : Array Value) (t : TypeId) : ((((((w.alloc (.cells c t)).alloc o1).alloc o2).alloc o3).alloc o4).alloc o5).setRow w.heap.size cs = ((((((w.alloc (.cells cs t)).alloc o1).alloc o2).alloc o3).alloc o4).alloc o5) := by
  rw [setRow_alloc_past _ _ _ _ (by first | rfl | (simp [World.size_alloc]; try omega)), setRow_alloc_past _ _ _ _ (by first | rfl | (simp [World.size_alloc]; try omega)), setRow_alloc_past _ _ _ _ (by first | rfl | (simp [World.size_alloc]; try omega)), setRow_alloc_past _ _ _ _ (by first | rfl | (simp [World.size_alloc]; try omega)), setRow_alloc_past _ _ _ _ (by first | rfl | (simp [World.size_alloc]; try omega)), setRow_alloc_at _ _ _ _ _ (by first | rfl | (simp [World.size_alloc]; try omega))]
theorem heap_6_1 (w : World) (o0 o1 o2 o3 o4 o5 : Obj) : ((((((w.alloc o0).alloc o1).alloc o2).alloc o3).alloc o4).alloc o5).heap[w.heap.size + 1]? = some o1 := by
  rw [heap_alloc_past _ _ _ (by first | rfl | (simp [World.size_alloc]; try omega)), heap_alloc_past _ _ _ (by first | rfl | (simp [World.size_alloc]; try omega)), heap_alloc_past _ _ _ (by first | rfl | (simp [World.size_alloc]; try omega)), heap_alloc_past _ _ _ (by first | rfl | (simp [World.size_alloc]; try omega)), heap_alloc_at _ _ _ (by first | rfl | (simp [World.size_alloc]; try omega))]
theorem row_6_1 (w : World) (o0 o2 o3 o4 o5 : Obj) (c cs : Array Value) (t : TypeId) : ((((((w.alloc o0).alloc (.cells c t)).alloc o2).alloc o3).alloc o4).alloc o5).setRow (w.heap.size + 1) cs = ((((((w.alloc o0).alloc (.cells cs t)).alloc o2).alloc o3).alloc o4).alloc o5) := by
  rw [setRow_alloc_past _ _ _ _ (by first | rfl | (simp [World.size_alloc]; try omega)), setRow_alloc_past _ _ _ _ (by first | rfl | (simp [World.size_alloc]; try omega)), setRow_alloc_past _ _ _ _ (by first | rfl | (simp [World.size_alloc]; try omega)), setRow_alloc_past _ _ _ _ (by first | rfl | (simp [World.size_alloc]; try omega)), setRow_alloc_at _ _ _ _ _ (by first | rfl | (simp [World.size_alloc]; try omega))]
theorem heap_6_2 (w : World) (o0 o1 o2 o3 o4 o5 : Obj) : ((((((w.alloc o0).alloc o1).alloc o2).alloc o3).alloc o4).alloc o5).heap[w.heap.size + 2]? = some o2 := by
  rw [heap_alloc_past _ _ _ (by first | rfl | (simp [World.size_alloc]; try omega)), heap_alloc_past _ _ _ (by first | rfl | (simp [World.size_alloc]; try omega)), heap_alloc_past _ _ _ (by first | rfl | (simp [World.size_alloc]; try omega)), heap_alloc_at _ _ _ (by first | rfl | (simp [World.size_alloc]; try omega))]
theorem row_6_2 (w : World) (o0 o1 o3 o4 o5 : Obj) (c cs : Array Value) (t : TypeId) : ((((((w.alloc o0).alloc o1).alloc (.cells c t)).alloc o3).alloc o4).alloc o5).setRow (w.heap.size + 2) cs = ((((((w.alloc o0).alloc o1).alloc (.cells cs t)).alloc o3).alloc o4).alloc o5) := by
  rw [setRow_alloc_past _ _ _ _ (by first | rfl | (simp [World.size_alloc]; try omega)), setRow_alloc_past _ _ _ _ (by first | rfl | (simp [World.size_alloc]; try omega)), setRow_alloc_past _ _ _ _ (by first | rfl | (simp [World.size_alloc]; try omega)), setRow_alloc_at _ _ _ _ _ (by first | rfl | (simp [World.size_alloc]; try omega))]
theorem heap_6_3 (w : World) (o0 o1 o2 o3 o4 o5 : Obj) : ((((((w.alloc o0).alloc o1).alloc o2).alloc o3).alloc o4).alloc o5).heap[w.heap.size + 3]? = some o3 := by
  rw [heap_alloc_past _ _ _ (by first | rfl | (simp [World.size_alloc]; try omega)), heap_alloc_past _ _ _ (by first | rfl | (simp [World.size_alloc]; try omega)), heap_alloc_at _ _ _ (by first | rfl | (simp [World.size_alloc]; try omega))]
theorem row_6_3 (w : World) (o0 o1 o2 o4 o5 : Obj) (c cs : Array Value) (t : TypeId) : ((((((w.alloc o0).alloc o1).alloc o2).alloc (.cells c t)).alloc o4).alloc o5).setRow (w.heap.size + 3) cs = ((((((w.alloc o0).alloc o1).alloc o2).alloc (.cells cs t)).alloc o4).alloc o5) := by
  rw [setRow_alloc_past _ _ _ _ (by first | rfl | (simp [World.size_alloc]; try omega)), setRow_alloc_past _ _ _ _ (by first | rfl | (simp [World.size_alloc]; try omega)), setRow_alloc_at _ _ _ _ _ (by first | rfl | (simp [World.size_alloc]; try omega))]
theorem heap_6_4 (w : World) (o0 o1 o2 o3 o4 o5 : Obj) : ((((((w.alloc o0).alloc o1).alloc o2).alloc o3).alloc o4).alloc o5).heap[w.heap.size + 4]? = some o4 := by
  rw [heap_alloc_past _ _ _ (by first | rfl | (simp [World.size_alloc]; try omega)), heap_alloc_at _ _ _ (by first | rfl | (simp [World.size_alloc]; try omega))]
theorem row_6_4 (w : World) (o0 o1 o2 o3 o5 : Obj) (c cs : Array Value) (t : TypeId) : ((((((w.alloc o0).alloc o1).alloc o2).alloc o3).alloc (.cells c t)).alloc o5).setRow (w.heap.size + 4) cs = ((((((w.alloc o0).alloc o1).alloc o2).alloc o3).alloc (.cells cs t)).alloc o5) := by
  rw [setRow_alloc_past _ _ _ _ (by first | rfl | (simp [World.size_alloc]; try omega)), setRow_alloc_at _ _ _ _ _ (by first | rfl | (simp [World.size_alloc]; try omega))]
theorem heap_6_5 (w : World) (o0 o1 o2 o3 o4 o5 : Obj) : ((((((w.alloc o0).alloc o1).alloc o2).alloc o3).alloc o4).alloc o5).heap[w.heap.size + 5]? = some o5 := by
  rw [heap_alloc_at _ _ _ (by first | rfl | (simp [World.size_alloc]; try omega))]
theorem row_6_5 (w : World) (o0 o1 o2 o3 o4 : Obj) (c cs : Array Value) (t : TypeId) : ((((((w.alloc o0).alloc o1).alloc o2).alloc o3).alloc o4).alloc (.cells c t)).setRow (w.heap.size + 5) cs = ((((((w.alloc o0).alloc o1).alloc o2).alloc o3).alloc o4).alloc (.cells cs t)) := by
  rw [setRow_alloc_at _ _ _ _ _ (by first | rfl | (simp [World.size_alloc]; try omega))]

section
variable {P : Program} {ops : Array Oper} {rest : List Oper} {o : Oper} {a : Act} {w : World} {Q : Exit → Act → World → Prop}

theorem wp_alloc_as {K : Act → World → Prop} (T : TypeId) (ho : o.op = .alloc T) (z : Array Value)
    (hz : (Instr.alloc T true (.tuple #[])).run P w = .ok (.pointer (some ⟨w.heap.size, 0, none⟩)) (w.alloc (.cells z T)))
    (h : K (a.put o.dst (.pointer (some ⟨w.heap.size, 0, none⟩))) (w.alloc (.cells z T))) : o.wp P a w K Q := by
  unfold Oper.wp execOp
  simp only [ho, Sem.run_bind, hz, Result.andThen_ok]
  exact h

theorem wpList_alloc_as (hgd : o.guard = none) (T : TypeId) (ho : o.op = .alloc T) (z : Array Value)
    (hz : (Instr.alloc T true (.tuple #[])).run P w = .ok (.pointer (some ⟨w.heap.size, 0, none⟩)) (w.alloc (.cells z T)))
    (h : wpList P ops Q rest (a.put o.dst (.pointer (some ⟨w.heap.size, 0, none⟩))) (w.alloc (.cells z T))) : wpList P ops Q (o :: rest) a w := by
  refine wpList_plain hgd fun K hK => ?_
  unfold Oper.wp execOp
  simp only [ho, Sem.run_bind, hz, Result.andThen_ok]
  exact hK _ _ h

theorem wpList_build_as (hgd : o.guard = none) (T : TypeId) (ho : o.op = .build T #[]) (z : Array Value) (hz : P.built T [] = some z)
    (h : wpList P ops Q rest (a.put o.dst (.agg z)) w) : wpList P ops Q (o :: rest) a w := by
  refine wpList_build hgd T #[] ho (by simp [hz]) ?_
  simpa [hz] using h

theorem wpList_load_rowAs (hgd : o.guard = none) (ty : TypeId) (x : Operand) (ho : o.op = .load ty x)
    (g : Nat) (hx : a.eval x = .pointer (some ⟨g, 0, none⟩)) (t : TypeId) (cs : Array Value) (fr : Nat × Nat) (d : TypeDesc) (n : Nat) (hg : w.heap[g]? = some (.cells cs t fr))
    (hu : P.underlying ty = some d) (hd : (match d with | .struct _ | .array _ _ => true | _ => false) = true) (hi : (P.info? ty).map (·.size) = some n) (hn : cs.size = n)
    (h : wpList P ops Q rest (a.put o.dst (.agg cs)) w) : wpList P ops Q (o :: rest) a w :=
  wpList_load_row hgd ty x ho g hx t cs fr d hg hu hd (by rw [hn]; exact hi) h

theorem wpList_store_rowAs (hgd : o.guard = none) (ty : TypeId) (x y : Operand) (ho : o.op = .store ty x y)
    (g : Nat) (cells : Array Value) (hx : a.eval x = .pointer (some ⟨g, 0, none⟩)) (hy : a.eval y = .agg cells)
    (t : TypeId) (old : Array Value) (n : Nat) (hg : w.heap[g]? = some (.cells old t (0, 0))) (hi : (P.info? ty).map (·.size) = some n) (hn : cells.size = n)
    (hold : old.size = n) (h1 : cells.all (·.oneCell') = true)
    (h : wpList P ops Q rest (a.put o.dst undef) (w.setRow g cells)) : wpList P ops Q (o :: rest) a w :=
  wpList_plain hgd fun _ hK => wp_store_row ty x y ho g cells hx hy t old hg (by rw [hn]; exact hi) (by rw [hold, hn]) h1 (hK _ _ h)
end

section
variable {P : Program} {ops : Array Oper} {rest : List Oper} {o : Oper} {a : Act} {w : World} {Q : Exit → Act → World → Prop}
/-- The same behind a guard that holds. -/
theorem wpList_load_rowG (hw : Region.wanted o (yielded ops a.tmps) = true) (ty : TypeId) (x : Operand) (ho : o.op = .load ty x)
    (g : Nat) (hx : a.eval x = .pointer (some ⟨g, 0, none⟩)) (t : TypeId) (cs : Array Value) (fr : Nat × Nat) (d : TypeDesc) (n : Nat) (hg : w.heap[g]? = some (.cells cs t fr))
    (hu : P.underlying ty = some d) (hd : (match d with | .struct _ | .array _ _ => true | _ => false) = true) (hi : (P.info? ty).map (·.size) = some n) (hn : cs.size = n)
    (h : wpList P ops Q rest (a.put o.dst (.agg cs)) w) : wpList P ops Q (o :: rest) a w :=
  BigFrame.wpList_want hw fun _ hK => wp_load_row ty x ho g hx t cs fr d hg hu hd (by rw [hn]; exact hi) (hK _ _ h)

end

theorem results_row_tmp {P : Program} {fn : Func} {p u : Tmp} {ty : TypeId} (h : fn.results = #[.cell p ty, .tmp u]) (tmps : Array Value) (w : World) (g : Nat) (t : TypeId) (cs : Array Value) (fr : Nat × Nat) (d : TypeDesc) (n : Nat) (x : Value)
    (hx : tmps.getD u undef = x) (hp : tmps.getD p undef = .pointer (some ⟨g, 0, none⟩)) (hg : w.heap[g]? = some (.cells cs t fr))
    (hu : P.underlying ty = some d) (hd : (match d with | .struct _ | .array _ _ => true | _ => false) = true) (hi : (P.info? ty).map (·.size) = some n) (hn : cs.size = n) :
    (results fn tmps).run P w = .ok (.tuple #[.agg cs, x]) w := by
  subst hx
  have hp' : tmps[p]?.getD undef = .pointer (some ⟨g, 0, none⟩) := by simpa using hp
  simp [results, h, hp', asAddr, run_loadVar_row w g t ty cs fr d hg hu hd (by rw [hn]; exact hi)]

theorem below1 (w : World) (a : Obj) : Below w.heap.size w (w.alloc a) := (Below.refl _ _).alloc (Nat.le_refl _) _
theorem below2 (w : World) (a b : Obj) : Below w.heap.size w ((w.alloc a).alloc b) := (below1 w a).alloc (by simp) _
theorem below3 (w : World) (a b c : Obj) : Below w.heap.size w (((w.alloc a).alloc b).alloc c) := (below2 w a b).alloc (by simp; omega) _
theorem below4 (w : World) (a b c d : Obj) : Below w.heap.size w ((((w.alloc a).alloc b).alloc c).alloc d) := (below3 w a b c).alloc (by simp; omega) _

theorem lt_of_heap {w : World} {n : Nat} {o : Obj} (h : w.heap[n]? = some o) : n < w.heap.size := (Array.getElem?_eq_some_iff.1 h).1
theorem below_drewN {B : Nat} {w0 w : World} (h : Below B w0 w) (n : Nat) : Below B w0 (w.drewN n) := ⟨h.os, h.tape, h.output, h.size, h.block⟩
theorem below_setRow {B g : Nat} {w0 w : World} (hb : Below B w0 w) (hBg : B ≤ g) (cs : Array Value) : Below B w0 (w.setRow g cs) :=
  hb.trans ⟨rfl, rfl, rfl, by simp, fun k hk => setRow_other w g k cs (by omega)⟩

theorem mixed : Try.prog.follows .mixedOrders = true := by kernel_rfl
end Go.Proofs.Ytapgcbjlgekpeaa

/- Contracts of layer 1's functions (sat) and of its reference. -/
namespace Go.Proofs.Ytapgcbjlgekpeaa
open Go.ChangeShapes Go.WideShapes Go.ChangeAt Go.RowKit

namespace Sat
def clamp (x : Int) : Int := if x < -9223372036854775808 then -9223372036854775808 else if 9223372036854775807 < x then 9223372036854775807 else x
theorem clamp_I64 (x : Int) : I64 (clamp x) := by unfold clamp I64; split <;> (try split) <;> omega
theorem clamp_of {x : Int} (h : I64 x) : clamp x = x := by unfold clamp; obtain ⟨a, b⟩ := h; rw [if_neg (by omega), if_neg (by omega)]
end Sat

theorem sat_add (a b : Int) (ha : I64 a) (hb : I64 b) (w : World) :
    Calls Try.prog 149 #[.int .i64 a, .int .i64 b] w fun e w' => e = .returned (.int .i64 (Sat.clamp (a + b))) ∧ w = w' := by
  obtain ⟨ha1, ha2⟩ := ha
  obtain ⟨hb1, hb2⟩ := hb
  go_enter Try.func149, Try.ntmps149
  go_wp2
  all_goals (go_ret; exact ⟨ret_int (by unfold Sat.clamp; split <;> (try split) <;> omega), rfl⟩)

def Sat.clampTo (n lo hi : Int) : Int := if n < lo ∨ hi < lo then lo else if hi < n then hi else n

def Sat.floor (a b : Int) : Int := if b < 1 then 0 else a / b
def Sat.ceil (a b : Int) : Int := if b < 1 then 0 else -(-a / b)

theorem Sat.div_bd (a b : Int) (ha : I64 a) (hb : 1 ≤ b) : -9223372036854775808 ≤ a / b ∧ a / b ≤ 9223372036854775807 ∧ b * (a / b) ≤ a ∧ a < b * (a / b) + b := by
  obtain ⟨h1, h2⟩ := ha
  have e := Int.mul_ediv_add_emod a b
  have l := Int.emod_nonneg a (b := b) (by omega)
  have u := Int.emod_lt_of_pos a (b := b) (by omega)
  refine ⟨?_, ?_, by omega, by omega⟩
  · exact Int.le_ediv_of_mul_le (by omega) (by
      have : (-9223372036854775808) * b ≤ (-9223372036854775808) * 1 := Int.mul_le_mul_of_nonpos_left (by omega) (by omega)
      omega)
  · by_cases h : 0 ≤ a
    · have := Int.ediv_le_self b h; omega
    · have := Int.ediv_neg_of_neg_of_pos (a := a) (b := b) (by omega) (by omega); omega

/-- A quotient is known by its rest. -/
theorem Sat.quo_of {a b q : Int} (hb : 1 ≤ b) (h1 : b * q ≤ a) (h2 : a < b * q + b) : a / b = q := by
  have e := Int.mul_ediv_add_emod a b
  have l := Int.emod_nonneg a (b := b) (by omega)
  have u := Int.emod_lt_of_pos a (b := b) (by omega)
  have h3 : b * (a / b - q) < b * 1 := by rw [Int.mul_sub]; omega
  have h4 : b * (q - a / b) < b * 1 := by rw [Int.mul_sub]; omega
  have h5 := Int.lt_of_mul_lt_mul_left h3 (by omega)
  have h6 := Int.lt_of_mul_lt_mul_left h4 (by omega)
  omega

theorem Sat.tdiv_neg_of (a b : Int) (ha : a < 0) (_ : 1 ≤ b) : a.tdiv b = -(-a / b) := by
  have : a.tdiv b = -((-a).tdiv b) := by rw [Int.neg_tdiv]; omega
  rw [this, Int.tdiv_eq_ediv_of_nonneg (by omega)]

theorem Sat.tmod_neg_of (a b : Int) (ha : a < 0) (_ : 1 ≤ b) : a.tmod b = -(-a % b) := by
  have : a.tmod b = -((-a).tmod b) := by rw [Int.neg_tmod]; omega
  rw [this, Int.tmod_eq_emod_of_nonneg (by omega)]

/-- By the quotient and the rest of the number turned round. -/
theorem Sat.floor_neg (a b : Int) (hb : 1 ≤ b) : a / b = if -a % b = 0 then -(-a / b) else -(-a / b) - 1 := by
  have e := Int.mul_ediv_add_emod (-a) b
  have l := Int.emod_nonneg (-a) (b := b) (by omega)
  have u := Int.emod_lt_of_pos (-a) (b := b) (by omega)
  split
  · apply Sat.quo_of hb <;> rw [Int.mul_neg] <;> omega
  · apply Sat.quo_of hb <;> rw [Int.mul_sub, Int.mul_neg] <;> omega

theorem Sat.exact_yes (a b : Int) (ha : I64 a) (hb : b ≠ 0) (h : I64 (a * b)) : wrap64 (a * b) = a * b ∧ (a * b).tdiv b = a ∧ wrap64 a = a ∧ ¬(a = -9223372036854775808 ∧ b = -1) := by
  refine ⟨IntWalk.wrap64_in _ h, Int.mul_tdiv_cancel _ hb, IntWalk.wrap64_in _ ha, ?_⟩
  rintro ⟨rfl, rfl⟩
  obtain ⟨_, h2⟩ := h
  omega

theorem Sat.exact_no (a b : Int) (ha : I64 a) (hb : b ≠ 0) (hB : I64 b) (h : ¬ I64 (a * b)) (hne : ¬(a = -9223372036854775808 ∧ b = -1)) : ¬ wrap64 ((wrap64 (a * b)).tdiv b) = a := by
  intro he
  obtain ⟨ha1, ha2⟩ := ha
  obtain ⟨hb1, hb2⟩ := hB
  have hx : I64 (wrap64 (a * b)) := by unfold wrap64 I64; omega
  have hk : ∃ k : Int, wrap64 (a * b) = a * b - 18446744073709551616 * k := ⟨(a * b + 9223372036854775808) / 18446744073709551616, by unfold wrap64; omega⟩
  generalize wrap64 (a * b) = x at *
  obtain ⟨k, hk⟩ := hk
  have e := Int.tmod_add_mul_tdiv x b
  have hr : (x.tmod b).natAbs < b.natAbs := by
    rw [Int.natAbs_tmod]
    exact Nat.mod_lt _ (by omega)
  obtain ⟨x1, x2⟩ := hx
  have hq : x.tdiv b = a := by
    by_cases hs : x = -9223372036854775808 ∧ b = -1
    · obtain ⟨rfl, rfl⟩ := hs
      exfalso
      apply hne
      refine ⟨?_, rfl⟩
      rw [← he]
      unfold wrap64
      decide
    · have hlo : -9223372036854775808 ≤ x.tdiv b ∧ x.tdiv b ≤ 9223372036854775807 := by
        have hna : (x.tdiv b).natAbs = x.natAbs / b.natAbs := Int.natAbs_tdiv _ _
        have hle := Nat.div_le_self x.natAbs b.natAbs
        by_cases hxm : x = -9223372036854775808
        · by_cases hb1 : b = 1
          · subst hb1; rw [Int.tdiv_one] at *; omega
          · have h2 : 2 ≤ b.natAbs := by omega
            have h3 : x.natAbs / b.natAbs ≤ x.natAbs / 2 := Nat.div_le_div_left h2 (by omega)
            omega
        · omega
      rw [← he, IntWalk.wrap64_in _ hlo]
  rw [hq] at e
  rw [Int.mul_comm] at e
  apply h
  have hk0 : k = 0 := by omega
  subst hk0
  unfold I64
  omega

theorem Sat.neg_of_mul {a b : Int} (ha : a < 0) (hb : 0 < b) : a * b < 0 := Int.mul_neg_of_neg_of_pos ha hb

theorem Sat.sign_same (a b : Int) (h : (a < 0) = (b < 0)) (ha : a ≠ 0) (hb : b ≠ 0) : 0 < a * b := by
  by_cases h1 : a < 0
  · have h2 : b < 0 := by rw [← h]; exact h1
    exact Int.mul_pos_of_neg_of_neg h1 h2
  · have h2 : ¬ b < 0 := by rw [← h]; exact h1
    exact Int.mul_pos (by omega) (by omega)

theorem Sat.sign_apart (a b : Int) (h : ¬((a < 0) = (b < 0))) (ha : a ≠ 0) (hb : b ≠ 0) : a * b < 0 := by
  by_cases h1 : a < 0
  · by_cases h2 : b < 0
    · exact absurd (by simp [h1, h2]) h
    · exact Int.mul_neg_of_neg_of_pos h1 (by omega)
  · by_cases h2 : b < 0
    · exact Int.mul_neg_of_pos_of_neg (by omega) h2
    · exact absurd (by simp [h1, h2]) h

def Sat.fits (a b : Int) : Bool := decide (I64 (a * b))
theorem Sat.fits_iff (a b : Int) : Sat.fits a b = true ↔ I64 (a * b) := by unfold Sat.fits; simp

theorem Sat.far_mul (a b : Int) : (a * b).natAbs = a.natAbs * b.natAbs := Int.natAbs_mul a b

def Sat.refMul (a b : Int) (x y : Nat) : Int := if (decide (a < 0) == decide (b < 0)) = true then (if 9223372036854775807 / (y : Int) < x then 9223372036854775807 else (x : Int) * y) else (if 9223372036854775808 / (y : Int) < x then -9223372036854775808 else - ((x : Int) * y))

theorem Sat.refMul_eq (a b : Int) (a0 : ¬ a = 0) (b0 : ¬ b = 0) : Sat.refMul a b a.natAbs b.natAbs = Sat.clamp (a * b) := by
  have hm := Sat.far_mul a b
  have s1 := Sat.sign_same a b
  have s2 := Sat.sign_apart a b
  have q1 : (9223372036854775807 : Int) / (b.natAbs : Int) < a.natAbs ↔ 9223372036854775807 < (a.natAbs : Int) * b.natAbs := Int.ediv_lt_iff_lt_mul (by omega)
  have q2 : (9223372036854775808 : Int) / (b.natAbs : Int) < a.natAbs ↔ 9223372036854775808 < (a.natAbs : Int) * b.natAbs := Int.ediv_lt_iff_lt_mul (by omega)
  have hm' : ((a * b).natAbs : Int) = (a.natAbs : Int) * b.natAbs := by rw [hm]; simp
  unfold Sat.refMul
  simp only [q1, q2]
  generalize (a.natAbs : Int) * (b.natAbs : Int) = z at *
  generalize a * b = u at *
  clear hm q1 q2
  unfold Sat.clamp
  by_cases hs : (a < 0) = (b < 0)
  · rw [if_pos (by simp [hs])]; have := s1 hs a0 b0; repeat' split
    all_goals omega
  · rw [if_neg (by intro h; apply hs; simpa using h)]; have := s2 hs a0 b0; repeat' split
    all_goals omega

theorem Sat.refMul_facts (x y : Nat) (hx : 1 ≤ x) (hy : 1 ≤ y) : 1 ≤ (x : Int) * y ∧ (¬ 9223372036854775807 / (y : Int) < x → (x : Int) * y ≤ 9223372036854775807) ∧ (¬ 9223372036854775808 / (y : Int) < x → (x : Int) * y ≤ 9223372036854775808) ∧
    0 ≤ 9223372036854775807 / (y : Int) ∧ 9223372036854775807 / (y : Int) ≤ 9223372036854775807 ∧ 0 ≤ 9223372036854775808 / (y : Int) ∧ 9223372036854775808 / (y : Int) ≤ 9223372036854775808 := by
  have q1 : (9223372036854775807 : Int) / (y : Int) < x ↔ 9223372036854775807 < (x : Int) * y := Int.ediv_lt_iff_lt_mul (by omega)
  have q2 : (9223372036854775808 : Int) / (y : Int) < x ↔ 9223372036854775808 < (x : Int) * y := Int.ediv_lt_iff_lt_mul (by omega)
  have hp : 1 ≤ (x : Int) * y := Int.mul_pos (by omega) (by omega)
  exact ⟨hp, fun h => by omega, fun h => by omega, Int.ediv_nonneg (by omega) (by omega), Int.ediv_le_self _ (by omega), Int.ediv_nonneg (by omega) (by omega), Int.ediv_le_self _ (by omega)⟩

def Sat.pow (n : Nat) : Int := 2 ^ n
/-- A number's lowest bits, as a number with a sign. -/
def Sat.narrow (n bits : Int) : Int := if bits < 1 ∨ 64 < bits then 0 else (n + 2 ^ (bits - 1).toNat) % 2 ^ bits.toNat - 2 ^ (bits - 1).toNat

theorem Sat.wrap_shift (n : Int) (b : Nat) (h1 : 1 ≤ b) (h2 : b ≤ 64) : wrap64 (n * 2 ^ (64 - b)) / 2 ^ (64 - b) = (n + 2 ^ (b - 1)) % 2 ^ b - 2 ^ (b - 1) := by
  have e1 : (2 : Int) ^ (64 - b) * 2 ^ b = 18446744073709551616 := by rw [← Int.pow_add, show 64 - b + b = 64 by omega]; rfl
  have e2 : (2 : Int) ^ (64 - b) * 2 ^ (b - 1) = 9223372036854775808 := by rw [← Int.pow_add, show 64 - b + (b - 1) = 63 by omega]; rfl
  have hp : (0 : Int) < 2 ^ (64 - b) := Int.pow_pos (by omega)
  unfold wrap64
  have e3 : n * 2 ^ (64 - b) + 9223372036854775808 = 2 ^ (64 - b) * (n + 2 ^ (b - 1)) := by rw [Int.mul_add, e2, Int.mul_comm]
  rw [e3, ← e1, Int.mul_emod_mul_of_pos _ _ hp, ← e2, ← Int.mul_sub, Int.mul_ediv_cancel_left _ (by omega)]

def Sat.stays (n bits : Int) : Bool := decide (1 ≤ bits ∧ bits ≤ 64 ∧ Sat.narrow n bits = n)

end Go.Proofs.Ytapgcbjlgekpeaa

/- The sums of layer 1. -/
namespace Go.Proofs.Ytapgcbjlgekpeaa
open Go.ChangeShapes Go.WideShapes Go.ChangeAt Go.RowKit

def Sat.sum (l : List Int) : Int := l.foldl (fun s n => Sat.clamp (s + n)) 0

theorem Sat.sum_I64 (l : List Int) : I64 (Sat.sum l) := by
  have h : ∀ (l : List Int) (s : Int), I64 s → I64 (l.foldl (fun s n => Sat.clamp (s + n)) s) := by
    intro l
    induction l with
    | nil => exact fun s h => h
    | cons a l ih => exact fun s _ => ih _ (Sat.clamp_I64 _)
  exact h l 0 (by unfold I64; omega)

theorem Sat.sum_step (l : List Int) (k : Nat) (h : k < l.length) : Sat.sum (l.take (k + 1)) = Sat.clamp (Sat.sum (l.take k) + l[k]?.getD 0) := by
  unfold Sat.sum
  rw [List.take_add_one, List.foldl_append]
  simp [List.getElem?_eq_getElem h]

end Go.Proofs.Ytapgcbjlgekpeaa

/- A region that draws its order, whose operations each yield ONE value, and keep one condition on the world, whatever the order; one operation, at the end, may turn that condition into another one. -/
namespace Go.Proofs.Ytapgcbjlgekpeaa
open Go.ChangeShapes Go.WideShapes Go.ChangeAt Go.RowKit

/-- How a frame of written-out slots is laid and read. -/
theorem act_norm : (∀ (a : Act) (d : Tmp) (v : Value), a.put (some d) v = ⟨a.tmps.setIfInBounds d v, a.defers⟩) ∧ (∀ (a : Act) (v : Value), a.put none v = a) ∧
    (∀ (a : Act) (i : Tmp), a.eval (.tmp i) = a.tmps.getD i undef) ∧ (∀ (a : Act) (v : Value), a.eval (.const v) = v) ∧
    (∀ (xs : Array Value) (i : Nat) (v : Value), xs.getD i v = xs[i]?.getD v) ∧ (∀ (l : List Value) (i : Nat), l.toArray[i]? = l[i]?) ∧
    (∀ (x : Value) (l : List Value) (i : Nat), (x :: l)[i + 1]? = l[i]?) ∧ (∀ (x : Value) (l : List Value), (x :: l)[0]? = some x) ∧ (∀ x y : Value, (some x).getD y = x) ∧
    (∀ (l : List Value) (i : Nat) (v : Value), l.toArray.setIfInBounds i v = (l.set i v).toArray) ∧
    (∀ (x : Value) (l : List Value) (i : Nat) (v : Value), (x :: l).set (i + 1) v = x :: l.set i v) ∧ (∀ (x : Value) (l : List Value) (v : Value), (x :: l).set 0 v = v :: l) := by
  refine ⟨fun _ _ _ => rfl, fun _ _ => rfl, fun _ _ => rfl, fun _ _ => rfl, fun _ _ _ => Array.getD_eq_getD_getElem? .., fun _ _ => by simp, fun _ _ _ => rfl, fun _ _ => rfl, fun _ _ => rfl, fun _ _ _ => by simp, fun _ _ _ _ => rfl, fun _ _ _ => rfl⟩

theorem below_drew {B : Nat} {w0 w : World} (h : Below B w0 w) : Below B w0 { w with drawn := w.drawn + 1 } := ⟨h.os, h.tape, h.output, h.size, h.block⟩

section
variable {P : Program} {ops : Array Oper} {Q : Exit → Act → World → Prop} {md : Region.Mode} {S S' : World → Prop} {St : Nat → World → Prop} {js : List Nat}

/-- Nothing but a normal end. -/
def NoQ : Exit → Act → World → Prop := fun _ _ _ => False

/-- From a world that meets S the operation yields v and leaves a world that meets S'. -/
def effD (P : Program) (o : Oper) (ρ : Operand → Value) (S' : World → Prop) (v : Value) (w : World) : Prop :=
  match (execOp ρ o).run P w with
  | .ok (.value u) w' => (o.dst = none ∨ u = v) ∧ S' w'
  | .ok .skip w' => (o.dst = none ∨ undef = v) ∧ S' w'
  | .ok (.enter f args) w' => Calls P f args w' fun e w'' => (∃ u, e = .returned u ∧ (o.dst = none ∨ u = v)) ∧ S' w''
  | .ok (.row row args) w' => Rows P row args w' fun u w'' => (o.dst = none ∨ u = v) ∧ S' w''
  | _ => False

def EffD (P : Program) (ops : Array Oper) (S S' : World → Prop) (o : Oper) (v : Value) (a : Act) : Prop :=
  (Region.wanted o (yielded ops a.tmps) = true ∧ ∀ w, S w → effD P o a.eval S' v w) ∨ (Region.wanted o (yielded ops a.tmps) = false ∧ v = undef ∧ ∀ w, S w → S' w)

theorem EffD.of_same {o : Oper} {v : Value} {a a' : Act} (hy : EffD P ops S S' o v a) (he : execOp a'.eval o = execOp a.eval o)
    (hw : Region.wanted o (yielded ops a'.tmps) = Region.wanted o (yielded ops a.tmps)) : EffD P ops S S' o v a' := by
  unfold EffD effD at *
  rw [he, hw]
  exact hy

theorem put_of {a : Act} {d : Option Tmp} {u v : Value} (h : d = none ∨ u = v) : a.put d u = a.put d v := by
  rcases h with rfl | rfl <;> rfl

theorem EffD.wpOp {i : Nat} {o : Oper} {v : Value} {a : Act} (hi : ops[i]? = some o) (hy : EffD P ops S S' o v a)
    {K : Act → World → Prop} {w : World} (hS : S w) (h : ∀ w', S' w' → K (a.put o.dst v) w') : wpOp P ops Q i K a w := by
  unfold Go.wpOp
  simp only [hi]
  rcases hy with ⟨hw, hv⟩ | ⟨hw, rfl, hk⟩
  · simp only [hw, if_true, Oper.wp]
    left
    have hv := hv w hS
    unfold effD at hv
    generalize (execOp a.eval o).run P w = r at *
    cases r with
    | ok n w' =>
      cases n <;> simp only [Oper.upon] at hv ⊢
      case value u => rw [put_of hv.1]; exact h _ hv.2
      case skip => rw [put_of hv.1]; exact h _ hv.2
      case enter f args =>
        refine hv.mono fun e w'' ⟨⟨u, he, hu⟩, hS'⟩ => ?_
        subst he
        show K (a.put o.dst u) w''
        rw [put_of hu]
        exact h _ hS'
      case row row args => exact hv.mono fun u w'' ⟨hu, hS'⟩ => by rw [put_of hu]; exact h _ hS'
    | halt x w' => exact hv.elim
  · simp only [hw, Bool.false_eq_true, if_false]; exact h _ (hk _ hS)

/-- How many of the operations js have come up. -/
def cnt (js : List Nat) (listed : Array Bool) : Nat := (js.filter fun j => listed.getD j false).length

/-- The condition as it stands: behind each of the operations js another one. -/
def Stood (St : Nat → World → Prop) (js : List Nat) (listed : Array Bool) : World → Prop := St (cnt js listed)

/-- Two conditions, one behind the other; three. -/
def st2 (S0 S1 : World → Prop) : Nat → World → Prop | 0 => S0 | _ + 1 => S1
def st3 (S0 S1 S2 : World → Prop) : Nat → World → Prop | 0 => S0 | 1 => S1 | _ + 2 => S2

/-- Whatever order is picked: each operation yields its value, and the condition holds at each step. -/
def wpAnyD (P : Program) (md : Region.Mode) (ops : Array Oper) (Q : Exit → Act → World → Prop) (St : Nat → World → Prop) (js : List Nat) : Nat → Array Bool → Act → Prop
  | 0, listed, a => Region.ready md ops listed = [] ∧ ∀ w, Stood St js listed w → Q .normal a w
  | fuel + 1, listed, a =>
    (Region.ready md ops listed = [] → ∀ w, Stood St js listed w → Q .normal a w) ∧
    ∀ i ∈ Region.ready md ops listed, ∃ o v, ops[i]? = some o ∧ EffD P ops (Stood St js listed) (Stood St js (listed.setIfInBounds i true)) o v a ∧
      wpAnyD P md ops Q St js fuel (listed.setIfInBounds i true) (a.put o.dst v)

theorem wpAny_of_D : ∀ (fuel : Nat) (listed : Array Bool) (a : Act) (w : World), wpAnyD P md ops Q St js fuel listed a → Stood St js listed w → wpAny P md ops Q fuel listed a w
  | 0, _, _, w, h, hS => ⟨h.1, h.2 w hS⟩
  | fuel + 1, _, _, w, h, hS => ⟨fun hr => h.1 hr w hS, fun i hi => by
    obtain ⟨o, v, ho, he, hk⟩ := h.2 i hi
    exact he.wpOp ho hS fun w' hS' => wpAny_of_D fuel _ _ w' hk hS'⟩

/-- Whether j waits for i, by some steps. -/
def reachB (md : Region.Mode) (ops : Array Oper) : Nat → Nat → Nat → Bool
  | 0, _, _ => false
  | fuel + 1, j, i => match ops[j]? with
    | some o => o.after.any fun e => Region.binds md e && (e.on == i || reachB md ops fuel e.on i)
    | none => false

/-- What has come up came up behind all that it waits for. -/
def Closed (md : Region.Mode) (ops : Array Oper) (listed : Array Bool) : Prop :=
  ∀ k o, ops[k]? = some o → listed.getD k false = true → ∀ e ∈ o.after, Region.binds md e = true → listed.getD e.on false = true
def closedB (md : Region.Mode) (ops : Array Oper) (listed : Array Bool) : Bool :=
  (List.range ops.size).all fun k => match ops[k]? with
    | some o => !listed.getD k false || o.after.all fun e => !Region.binds md e || listed.getD e.on false
    | none => true

theorem closed_of {listed : Array Bool} (h : closedB md ops listed = true) : Closed md ops listed := by
  intro k o ho hk e he hb
  have hlt : k < ops.size := (Array.getElem?_eq_some_iff.1 ho).1
  have := List.all_eq_true.1 h k (by simpa using hlt)
  rw [ho] at this
  simp only [hk, Bool.not_true, Bool.false_or] at this
  have h2 := Array.all_eq_true_iff_forall_mem.1 this e he
  simpa [hb] using h2

theorem closed_set {listed : Array Bool} {j : Nat} (h : Closed md ops listed) (hj : j ∈ Region.ready md ops listed) : Closed md ops (listed.setIfInBounds j true) := by
  intro k o ho hk e he hb
  obtain ⟨_, oj, hoj, hall⟩ := mem_ready.1 hj
  apply getD_set_true
  by_cases hkj : k = j
  · subst hkj
    obtain rfl : o = oj := Option.some.inj (ho.symm.trans hoj)
    exact hall e he hb
  · rw [getD_set_ne false (Ne.symm hkj)] at hk
    exact h k o ho hk e he hb

theorem reach_listed {listed : Array Bool} (h : Closed md ops listed) : ∀ (fuel j i : Nat), (∀ o, ops[j]? = some o → ∀ e ∈ o.after, Region.binds md e = true → listed.getD e.on false = true) →
    reachB md ops fuel j i = true → listed.getD i false = true
  | 0, _, _, _, hr => by simp [reachB] at hr
  | fuel + 1, j, i, hj, hr => by
    unfold reachB at hr
    cases ho : ops[j]? with
    | none => rw [ho] at hr; simp at hr
    | some o =>
      rw [ho] at hr
      simp only [Array.any_eq_true', Bool.and_eq_true, Bool.or_eq_true, beq_iff_eq] at hr
      obtain ⟨e, he, hb, hon⟩ := hr
      have hl := hj o ho e he hb
      rcases hon with hon | hon
      · rw [← hon]; exact hl
      · exact reach_listed h fuel e.on i (fun o' ho' => h e.on o' ho' hl) hon

/-- Whether all of js wait for i. -/
def waitsB (md : Region.Mode) (ops : Array Oper) (js : List Nat) (i : Nat) : Bool := js.all fun j => reachB md ops 6 j i

theorem stood_ne {listed : Array Bool} {i : Nat} (h : i ∉ js) : Stood St js (listed.setIfInBounds i true) = Stood St js listed := by
  unfold Stood cnt
  congr 2
  apply List.filter_congr
  intro j hj
  have hne : i ≠ j := fun e => h (by rw [e]; exact hj)
  rw [getD_set_ne false hne]

theorem wpAnyD_first {i : Nat} {oi : Oper} {v : Value} (hi : ops[i]? = some oi) (hsel : ∀ (j : Nat) (o : Oper) cs b, ops[j]? = some o → o.op ≠ .select cs b) (hij : i ∉ js) :
    ∀ (fuel : Nat) (listed : Array Bool) (a : Act),
      (∀ j oj, ops[j]? = some oj → j ≠ i → listed.getD j true = false → (∀ e ∈ oj.after, Region.binds md e = true → e.on ≠ i) → oi.apart ops oj = true) →
      listed.size = ops.size → Closed md ops listed → i ∈ Region.ready md ops listed →
      EffD P ops (Stood St js listed) (Stood St js listed) oi v a → (waitsB md ops js i = true ∨ ∀ n, EffD P ops (St n) (St n) oi v a) →
      wpAnyD P md ops Q St js fuel (listed.setIfInBounds i true) (a.put oi.dst v) → wpAnyD P md ops Q St js (fuel + 1) listed a := by
  intro fuel
  induction fuel with
  | zero =>
    intro listed a _ _ _ hr hy _ H
    refine ⟨fun h => (by rw [h] at hr; cases hr), fun j hj => ?_⟩
    by_cases hji : j = i
    · subst hji; exact ⟨oi, v, hi, by rw [stood_ne hij]; exact hy, H⟩
    · have := ready_mono hj hji
      rw [H.1] at this
      cases this
  | succ fuel ih =>
    intro listed a hfree hsz hcl hr hy hy1 H
    refine ⟨fun h => (by rw [h] at hr; cases hr), fun j hj => ?_⟩
    by_cases hji : j = i
    · subst hji; exact ⟨oi, v, hi, by rw [stood_ne hij]; exact hy, H⟩
    · obtain ⟨hjun, oj, hoj, hall⟩ := mem_ready.1 hj
      have hiun := (mem_ready.1 hr).1
      have hlt : i < ops.size := (Array.getElem?_eq_some_iff.1 hi).1
      have hnot : ∀ e ∈ oj.after, Region.binds md e = true → e.on ≠ i := fun e he hb heq => by
        have h1 := hall e he hb
        rw [heq] at h1
        have h2 : i < listed.size := by omega
        simp [h2] at hiun h1
        rw [hiun] at h1
        cases h1
      obtain ⟨oj', u, hoj', hyj, hkj⟩ := H.2 j (ready_mono hj hji)
      obtain rfl : oj = oj' := Option.some.inj (hoj.symm.trans hoj')
      obtain ⟨h1, h2, h3⟩ := Oper.apart_spec (hfree j oj hoj hji hjun hnot)
      rw [Array.setIfInBounds_comm _ _ (Ne.symm hji), stood_ne hij, stood_ne hij] at hyj
      have hyj' : EffD P ops (Stood St js listed) (Stood St js (listed.setIfInBounds j true)) oj u a :=
        hyj.of_same (execOp_put oj (fun cs b => hsel j oj cs b hoj) a oi.dst v h1).symm (wanted_put oj a oi.dst v h1).symm
      have keep : ∀ {S S' : World → Prop}, EffD P ops S S' oi v a → EffD P ops S S' oi v (a.put oj.dst u) := fun hy =>
        hy.of_same (execOp_put oi (fun cs b => hsel i oi cs b hi) a oj.dst u h3) (wanted_put oi a oj.dst u h3)
      have hfree' : ∀ k ok, ops[k]? = some ok → k ≠ i → (listed.setIfInBounds j true).getD k true = false →
          (∀ e ∈ ok.after, Region.binds md e = true → e.on ≠ i) → oi.apart ops ok = true := fun k ok hk hki hun hno => by
        refine hfree k ok hk hki ?_ hno
        by_cases hjk : j = k
        · subst hjk; exact hjun
        · rw [getD_set_ne true hjk] at hun; exact hun
      have hy' : EffD P ops (Stood St js (listed.setIfInBounds j true)) (Stood St js (listed.setIfInBounds j true)) oi v a := by
        by_cases hjj : j ∈ js
        · rcases hy1 with hw | hy1
          · exfalso
            unfold waitsB at hw
            have hw := List.all_eq_true.1 hw j hjj
            have hl := reach_listed hcl 6 j i (fun o ho => by
              obtain rfl : o = oj := Option.some.inj (ho.symm.trans hoj)
              exact hall) hw
            have h2 : i < listed.size := by omega
            simp [h2] at hiun hl
            rw [hiun] at hl
            cases hl
          · exact hy1 _
        · rw [stood_ne hjj]; exact hy
      refine ⟨oj, u, hoj, hyj', ih (listed.setIfInBounds j true) _ hfree' (by simpa using hsz) (closed_set hcl hj) (ready_mono hr (Ne.symm hji)) (keep hy') (hy1.imp id fun h n => keep (h n)) ?_⟩
      rw [Array.setIfInBounds_comm _ _ hji, ← Act.put_comm a v u h2]
      exact hkj

/-- Take number i, which is none of js. -/
theorem wpAnyD_take (i n : Nat) {oi : Oper} {tail : List Oper} {v : Value} {fuel : Nat} {listed : Array Bool} {a : Act} (hi' : ops.toList.drop i = oi :: tail)
    (hs : Region.noSelect ops = true) (hf : Region.free md ops listed i = true) (hr : ((Region.ready md ops listed).contains i && listed.size == ops.size && !js.contains i && cnt js listed == n && closedB md ops listed) = true)
    (hy : EffD P ops (St n) (St n) oi v a) (hy1 : waitsB md ops js i = true ∨ ∀ n, EffD P ops (St n) (St n) oi v a)
    (h : wpAnyD P md ops Q St js fuel (listed.setIfInBounds i true) (a.put oi.dst v)) : wpAnyD P md ops Q St js (fuel + 1) listed a := by
  have hi : ops[i]? = some oi := by
    have := congrArg (·[0]?) hi'
    simpa using this
  simp only [Bool.and_eq_true, beq_iff_eq, Bool.not_eq_true'] at hr
  refine wpAnyD_first hi (Region.noSelect_spec hs) (by have := hr.1.1.2; simpa using this) fuel listed a (Region.free_spec hi hf) hr.1.1.1.2 (closed_of hr.2) (by simpa using hr.1.1.1.1) ?_ hy1 h
  unfold Stood
  rw [hr.1.2]
  exact hy

/-- Take one of js, where nobody else may come up. -/
theorem wpAnyD_flag (j n : Nat) {o : Oper} {tail : List Oper} {v : Value} {fuel : Nat} {listed : Array Bool} {a : Act} (hi' : ops.toList.drop j = o :: tail)
    (hr : (Region.ready md ops listed == [j] && cnt js listed == n && cnt js (listed.setIfInBounds j true) == n + 1) = true) (hy : EffD P ops (St n) (St (n + 1)) o v a)
    (h : wpAnyD P md ops Q St js fuel (listed.setIfInBounds j true) (a.put o.dst v)) : wpAnyD P md ops Q St js (fuel + 1) listed a := by
  have hi : ops[j]? = some o := by
    have := congrArg (·[0]?) hi'
    simpa using this
  simp only [Bool.and_eq_true, beq_iff_eq] at hr
  refine ⟨fun h0 => (by rw [h0] at hr; cases hr.1.1), fun i hi2 => ?_⟩
  rw [hr.1.1] at hi2
  obtain rfl : i = j := by simpa using hi2
  refine ⟨o, v, hi, ?_, h⟩
  unfold Stood
  rw [hr.1.2, hr.2]
  exact hy

theorem wpAnyD_done (n : Nat) {listed : Array Bool} {a : Act} (hr : ((Region.ready md ops listed).isEmpty && cnt js listed == n) = true) (h : ∀ w, St n w → Q .normal a w) :
    ∀ fuel, wpAnyD P md ops Q St js fuel listed a := by
  simp only [Bool.and_eq_true, List.isEmpty_iff, beq_iff_eq] at hr
  have h' : ∀ w, Stood St js listed w → Q .normal a w := by
    unfold Stood
    rw [hr.2]
    exact h
  intro fuel
  cases fuel with
  | zero => exact ⟨hr.1, h'⟩
  | succ n => exact ⟨fun _ => h', by rw [hr.1]; simp⟩

theorem wp_region_D {id : Nat} {a : Act} {w : World} (hm : P.follows .mixedOrders = true) (js : List Nat) (St : Nat → World → Prop) (hS : St 0 { w with drawn := w.drawn + 1 })
    (h : wpAnyD P .any ops Q St js ops.size (Array.replicate ops.size false) a) : (Code.region id ops true).wp P Q a w :=
  wp_region_any hm (wpAny_of_D _ _ _ _ h (by
    unfold Stood cnt
    have : (js.filter fun j => (Array.replicate ops.size false).getD j false) = [] := by
      rw [List.filter_eq_nil_iff]
      intro j _
      by_cases hn : j < ops.size <;> simp [hn]
    rw [this]
    exact hS))

/-- An operation that yields its value in whatever world. -/
theorem EffD.pure {o : Oper} {v : Value} {a : Act} (hw : Region.wanted o (yielded ops a.tmps) = true) (h : ∀ w, (execOp a.eval o).run P w = .ok (.value v) w) (hk : ∀ w, S w → S' w) : EffD P ops S S' o v a :=
  .inl ⟨hw, fun w hS => by unfold effD; rw [h w]; exact ⟨.inr rfl, hk _ hS⟩⟩

/-- The slot has the value, and S holds. (A definition, so that the walk lets it be.) -/
def Got (a : Act) (d : Option Tmp) (v : Value) (S : World → Prop) : Act → World → Prop := fun a' w' => a' = a.put d v ∧ S w'

/-- By the walk of that one operation. -/
theorem EffD.run {o : Oper} {v : Value} {a : Act} (hw : Region.wanted o (yielded ops a.tmps) = true) (hd : (o.dst.all fun d => decide (d < a.tmps.size)) = true)
    (h : ∀ w, S w → o.wp P a w (Got a o.dst v S') NoQ) : EffD P ops S S' o v a := by
  have inj : ∀ u, a.put o.dst u = a.put o.dst v → (o.dst = none ∨ u = v) := fun u hu => by
    cases hdst : o.dst with
    | none => exact .inl rfl
    | some d =>
      right
      rw [hdst] at hu
      have h1 : (a.tmps.setIfInBounds d u)[d]? = (a.tmps.setIfInBounds d v)[d]? := by
        have := congrArg Act.tmps hu
        simp only [Act.put] at this
        rw [this]
      have hlt : d < a.tmps.size := by rw [hdst] at hd; simpa using hd
      simpa [hlt] using h1
  refine .inl ⟨hw, fun w hS => ?_⟩
  have h : o.wp P a w (fun a' w' => a' = a.put o.dst v ∧ S' w') NoQ := h w hS
  unfold effD
  unfold Oper.wp at h
  generalize (execOp a.eval o).run P w = r at *
  cases r with
  | ok n w' =>
    cases n <;> simp only [Oper.upon] at h ⊢
    case value u => exact ⟨inj _ h.1, h.2⟩
    case skip => exact ⟨inj _ h.1, h.2⟩
    case defer d =>
      have h1 := congrArg Act.defers h.1
      have h2 : (a.put o.dst v).defers = a.defers := by cases o.dst <;> rfl
      have h3 : (({ a with defers := d :: a.defers } : Act).put o.dst undef).defers = d :: a.defers := by cases o.dst <;> rfl
      rw [h2, h3] at h1
      exact absurd (congrArg List.length h1) (by simp)
    case enter f args =>
      refine h.mono fun e w'' he => ?_
      cases e with
      | returned u => exact ⟨⟨u, rfl, inj _ he.1⟩, he.2⟩
      | panicked c => exact (he : False).elim
      | outgrown => obtain ⟨_, _, hf⟩ := (he : LetsOut NoQ); exact (hf : False).elim
    case row row args => exact h.mono fun u w'' he => ⟨inj _ he.1, he.2⟩
  | halt x w' => cases x <;> simp only [Oper.upon, NoQ] at h
end
end Go.Proofs.Ytapgcbjlgekpeaa

/- A region that draws its order: what yields one value and makes at most new blocks may be taken first; what yields a new block's address, or stores, comes when its turn is. -/
namespace Go.Proofs.Ytapgcbjlgekpeaa
open Go.ChangeShapes Go.WideShapes Go.ChangeAt Go.RowKit

section
variable {P : Program} {ops : Array Oper} {Q : Exit → Act → World → Prop} {md : Region.Mode} {S S' : World → Prop} {js : List Nat}

/-- A condition that new blocks do not turn. -/
def Stab (S : World → Prop) : Prop := ∀ w w', S w → Below w.heap.size w w' → S w'

theorem stab_true : Stab fun _ => True := fun _ _ _ _ => trivial
theorem stab_and {S T : World → Prop} (h : Stab S) (k : Stab T) : Stab fun w => S w ∧ T w := fun w w' ⟨a, b⟩ hb => ⟨h w w' a hb, k w w' b hb⟩
theorem stab_heap (g : Nat) (o : Obj) : Stab fun w => w.heap[g]? = some o := fun _ _ h hb => (hb.block _ (Array.getElem?_eq_some_iff.1 h).1).trans h
theorem stab_below {B : Nat} {w0 : World} (hB : B ≤ w0.heap.size) : Stab fun w => Below B w0 w := fun _ _ h hb => h.trans (hb.mono (Nat.le_trans hB h.size))
theorem stab_pure (p : Prop) : Stab fun _ => p := fun _ _ h _ => h

/-- The operation yields v, and makes at most new blocks. -/
def effB (P : Program) (o : Oper) (ρ : Operand → Value) (v : Value) (w : World) : Prop :=
  match (execOp ρ o).run P w with
  | .ok (.value u) w' => (o.dst = none ∨ u = v) ∧ Below w.heap.size w w'
  | .ok .skip w' => (o.dst = none ∨ undef = v) ∧ Below w.heap.size w w'
  | .ok (.enter f args) w' => Calls P f args w' fun e w'' => (∃ u, e = .returned u ∧ (o.dst = none ∨ u = v)) ∧ Below w.heap.size w w''
  | .ok (.row row args) w' => Rows P row args w' fun u w'' => (o.dst = none ∨ u = v) ∧ Below w.heap.size w w''
  | _ => False

def EffB (P : Program) (ops : Array Oper) (S : World → Prop) (o : Oper) (v : Value) (a : Act) : Prop :=
  (Region.wanted o (yielded ops a.tmps) = true ∧ ∀ w, S w → effB P o a.eval v w) ∨ (Region.wanted o (yielded ops a.tmps) = false ∧ v = undef)

theorem EffB.of_same {o : Oper} {v : Value} {a a' : Act} (hy : EffB P ops S o v a) (he : execOp a'.eval o = execOp a.eval o)
    (hw : Region.wanted o (yielded ops a'.tmps) = Region.wanted o (yielded ops a.tmps)) : EffB P ops S o v a' := by
  unfold EffB effB at *
  rw [he, hw]
  exact hy

theorem EffB.weaken {o : Oper} {v : Value} {a : Act} (hy : EffB P ops S o v a) (h : ∀ w, S' w → S w) : EffB P ops S' o v a :=
  hy.imp (fun ⟨hw, k⟩ => ⟨hw, fun w hS => k w (h w hS)⟩) id

theorem EffB.wpOp {i : Nat} {o : Oper} {v : Value} {a : Act} (hi : ops[i]? = some o) (hy : EffB P ops S o v a)
    {K : Act → World → Prop} {w : World} (hS : S w) (h : ∀ w', Below w.heap.size w w' → K (a.put o.dst v) w') : wpOp P ops Q i K a w := by
  unfold Go.wpOp
  simp only [hi]
  rcases hy with ⟨hw, hv⟩ | ⟨hw, rfl⟩
  · simp only [hw, if_true, Oper.wp]
    left
    have hv := hv w hS
    unfold effB at hv
    generalize (execOp a.eval o).run P w = r at *
    cases r with
    | ok n w' =>
      cases n <;> simp only [Oper.upon] at hv ⊢
      case value u => rw [put_of hv.1]; exact h _ hv.2
      case skip => rw [put_of hv.1]; exact h _ hv.2
      case enter f args =>
        refine hv.mono fun e w'' ⟨⟨u, he, hu⟩, hS'⟩ => ?_
        subst he
        show K (a.put o.dst u) w''
        rw [put_of hu]
        exact h _ hS'
      case row row args => exact hv.mono fun u w'' ⟨hu, hS'⟩ => by rw [put_of hu]; exact h _ hS'
    | halt x w' => exact hv.elim
  · simp only [hw, Bool.false_eq_true, if_false]; exact h _ (Below.refl _ _)

/-- One operation 'oj', apart from 'oi': whether 'oi''s value is already in its temporary makes no difference to it, and it makes none to 'oi'. -/
theorem wpOp_putB {j : Nat} {oi oj : Oper} {v : Value} {T : Act → Prop} (hj : ops[j]? = some oj) (hap : oi.apart ops oj = true)
    (hsj : ∀ cs b, oj.op ≠ .select cs b) (hT : ∀ a u, T a → T (a.put oj.dst u)) (hTd : ∀ (a : Act) d, T a → T { a with defers := d })
    (hQ : ∀ c a w, Q (.panic c) (a.put oi.dst v) w → Q (.panic c) a w) {K : Act → World → Prop} {a : Act} {w : World}
    (hy : T a) (h : wpOp P ops Q j K (a.put oi.dst v) w) :
    wpOp P ops Q j (fun a' w' => T a' ∧ K (a'.put oi.dst v) w') a w := by
  obtain ⟨h1, h2, h3⟩ := Oper.apart_spec hap
  unfold wpOp at *
  simp only [hj] at *
  rw [wanted_put oj a oi.dst v h1] at h
  split
  · rename_i hw
    simp only [hw, if_true] at h
    rcases h with h | ⟨hasks, hlets⟩
    case inr => exact .inr ⟨by unfold Oper.asks at *; rw [execOp_put oj hsj a oi.dst v h1] at hasks; exact hasks, hlets⟩
    refine .inl ?_
    unfold Oper.wp at *
    rw [execOp_put oj hsj a oi.dst v h1] at h
    generalize (execOp a.eval oj).run P w = r at *
    cases r with
    | ok n w' =>
      cases n <;> simp only [Oper.upon] at h ⊢
      case value u => exact ⟨hT a u hy, by rw [← Act.put_comm a v u h2]; exact h⟩
      case skip => exact ⟨hT a _ hy, by rw [← Act.put_comm a v undef h2]; exact h⟩
      case defer d =>
        refine ⟨hT _ _ (hTd _ _ hy), ?_⟩
        rw [← Act.put_comm _ v undef h2, ← Act.put_defers]
        exact h
      case enter f args =>
        refine Calls.mono h fun e w'' he => ?_
        cases e with
        | returned u => exact ⟨hT a u hy, by rw [← Act.put_comm a v u h2]; exact he⟩
        | panicked c => exact hQ _ _ _ he
        | outgrown => exact he
      case row row args => exact Rows.mono h fun u w'' he => ⟨hT a u hy, by rw [← Act.put_comm a v u h2]; exact he⟩
    | halt x w' =>
      cases x <;> simp only [Oper.upon] at h ⊢
      case panic u => exact hQ _ _ _ h
  · rename_i hw
    simp only [hw] at h
    exact ⟨hT a _ hy, by rw [← Act.put_comm a v undef h2]; exact h⟩

/-- Whatever order is picked. -/
def wpAnyE (P : Program) (md : Region.Mode) (ops : Array Oper) (Q : Exit → Act → World → Prop) (js : List Nat) : Nat → Array Bool → Act → (World → Prop) → Prop
  | 0, listed, a, S => Region.ready md ops listed = [] ∧ ∀ w, S w → Q .normal a w
  | fuel + 1, listed, a, S =>
    (Region.ready md ops listed = [] → ∀ w, S w → Q .normal a w) ∧
    ∀ j ∈ Region.ready md ops listed, ∀ w, S w → wpOp P ops Q j (fun a' w' => ∃ S', S' w' ∧ Stab S' ∧ (j ∈ js ∨ ∀ w, S' w → S w) ∧ wpAnyE P md ops Q js fuel (listed.setIfInBounds j true) a' S') a w

theorem wpAny_of_E : ∀ (fuel : Nat) (listed : Array Bool) (a : Act) (S : World → Prop) (w : World), wpAnyE P md ops Q js fuel listed a S → S w → wpAny P md ops Q fuel listed a w
  | 0, _, _, _, w, h, hS => ⟨h.1, h.2 w hS⟩
  | fuel + 1, _, _, _, w, h, hS => ⟨fun hr => h.1 hr w hS, fun i hi =>
    wpOp_mono (fun a' w' ⟨S', hS', _, _, hk⟩ => wpAny_of_E fuel _ a' S' w' hk hS') (h.2 i hi w hS)⟩

theorem wpAnyE_first {i : Nat} {oi : Oper} {v : Value} (hi : ops[i]? = some oi) (hsel : ∀ (j : Nat) (o : Oper) cs b, ops[j]? = some o → o.op ≠ .select cs b)
    (hQ : ∀ c a w, Q (.panic c) (a.put oi.dst v) w → Q (.panic c) a w) :
    ∀ (fuel : Nat) (listed : Array Bool) (a : Act) (S : World → Prop),
      (∀ j oj, ops[j]? = some oj → j ≠ i → listed.getD j true = false → (∀ e ∈ oj.after, Region.binds md e = true → e.on ≠ i) → oi.apart ops oj = true) →
      listed.size = ops.size → Closed md ops listed → i ∈ Region.ready md ops listed → Stab S →
      EffB P ops S oi v a → (waitsB md ops js i = true ∨ EffB P ops (fun _ => True) oi v a) →
      wpAnyE P md ops Q js fuel (listed.setIfInBounds i true) (a.put oi.dst v) S → wpAnyE P md ops Q js (fuel + 1) listed a S := by
  intro fuel
  induction fuel with
  | zero =>
    intro listed a S _ _ _ hr hst hy _ H
    refine ⟨fun h => (by rw [h] at hr; cases hr), fun j hj w hS => ?_⟩
    by_cases hji : j = i
    · subst hji; exact hy.wpOp hi hS fun w' hb => ⟨S, hst w w' hS hb, hst, .inr fun _ h => h, H⟩
    · have := ready_mono hj hji
      rw [H.1] at this
      cases this
  | succ fuel ih =>
    intro listed a S hfree hsz hcl hr hst hy hy1 H
    refine ⟨fun h => (by rw [h] at hr; cases hr), fun j hj w hS => ?_⟩
    by_cases hji : j = i
    · subst hji; exact hy.wpOp hi hS fun w' hb => ⟨S, hst w w' hS hb, hst, .inr fun _ h => h, H⟩
    · obtain ⟨hjun, oj, hoj, hall⟩ := mem_ready.1 hj
      have hiun := (mem_ready.1 hr).1
      have hlt : i < ops.size := (Array.getElem?_eq_some_iff.1 hi).1
      have hnot : ∀ e ∈ oj.after, Region.binds md e = true → e.on ≠ i := fun e he hb heq => by
        have h1 := hall e he hb
        rw [heq] at h1
        have h2 : i < listed.size := by omega
        simp [h2] at hiun h1
        rw [hiun] at h1
        cases h1
      have hap := hfree j oj hoj hji hjun hnot
      obtain ⟨h1, h2, h3⟩ := Oper.apart_spec hap
      have hk := H.2 j (ready_mono hj hji) w hS
      have hk2 := wpOp_putB (T := fun a' => EffB P ops S oi v a' ∧ (waitsB md ops js i = true ∨ EffB P ops (fun _ => True) oi v a')) hoj hap (fun cs b => hsel j oj cs b hoj)
        (fun a u ⟨k1, k2⟩ => ⟨k1.of_same (execOp_put oi (fun cs b => hsel i oi cs b hi) a oj.dst u h3) (wanted_put oi a oj.dst u h3),
          k2.imp id fun k => k.of_same (execOp_put oi (fun cs b => hsel i oi cs b hi) a oj.dst u h3) (wanted_put oi a oj.dst u h3)⟩)
        (fun a d ⟨k1, k2⟩ => ⟨k1.of_same rfl rfl, k2.imp id fun k => k.of_same rfl rfl⟩) hQ ⟨hy, hy1⟩ hk
      have hfree' : ∀ k ok, ops[k]? = some ok → k ≠ i → (listed.setIfInBounds j true).getD k true = false →
          (∀ e ∈ ok.after, Region.binds md e = true → e.on ≠ i) → oi.apart ops ok = true := fun k ok hk hki hun hno => by
        refine hfree k ok hk hki ?_ hno
        by_cases hjk : j = k
        · subst hjk; exact hjun
        · rw [getD_set_ne true hjk] at hun; exact hun
      refine wpOp_mono (fun a' w' ⟨⟨k1, k2⟩, S', hS', hst', hsub, hrec⟩ => ?_) hk2
      have hy' : EffB P ops S' oi v a' := by
        rcases hsub with hjs | hsub
        · rcases k2 with hw | k2
          · exfalso
            unfold waitsB at hw
            have hw := List.all_eq_true.1 hw j hjs
            have hl := reach_listed hcl 6 j i (fun o ho => by
              obtain rfl : o = oj := Option.some.inj (ho.symm.trans hoj)
              exact hall) hw
            have h2 : i < listed.size := by omega
            simp [h2] at hiun hl
            rw [hiun] at hl
            cases hl
          · exact k2.weaken fun _ _ => trivial
        · exact k1.weaken hsub
      refine ⟨S', hS', hst', hsub, ih (listed.setIfInBounds j true) a' S' hfree' (by simpa using hsz) (closed_set hcl hj) (ready_mono hr (Ne.symm hji)) hst' hy' k2 ?_⟩
      rw [Array.setIfInBounds_comm _ _ hji]
      exact hrec

/-- Take number i. -/
theorem wpAnyE_take (i : Nat) {oi : Oper} {tail : List Oper} {v : Value} {fuel : Nat} {listed : Array Bool} {a : Act} (hi' : ops.toList.drop i = oi :: tail)
    (hs : Region.noSelect ops = true) (hf : Region.free md ops listed i = true) (hr : ((Region.ready md ops listed).contains i && listed.size == ops.size && closedB md ops listed) = true)
    (hQ : ∀ c a w, Q (.panic c) (a.put oi.dst v) w → Q (.panic c) a w) (hst : Stab S)
    (hy : EffB P ops S oi v a) (hy1 : waitsB md ops js i = true ∨ EffB P ops (fun _ => True) oi v a)
    (h : wpAnyE P md ops Q js fuel (listed.setIfInBounds i true) (a.put oi.dst v) S) : wpAnyE P md ops Q js (fuel + 1) listed a S := by
  have hi : ops[i]? = some oi := by
    have := congrArg (·[0]?) hi'
    simpa using this
  simp only [Bool.and_eq_true, beq_iff_eq] at hr
  exact wpAnyE_first hi (Region.noSelect_spec hs) hQ fuel listed a S (Region.free_spec hi hf) hr.1.2 (closed_of hr.2) (by simpa using hr.1.1) hst hy hy1 h

/-- The only one that may come up. -/
theorem wpAnyE_one (j : Nat) {o : Oper} {tail : List Oper} {fuel : Nat} {listed : Array Bool} {a : Act} (hi' : ops.toList.drop j = o :: tail)
    (hr : (Region.ready md ops listed == [j]) = true) (hw : Region.wanted o (yielded ops a.tmps) = true)
    (h : ∀ w, S w → o.wp P a w (fun a' w' => ∃ S', S' w' ∧ Stab S' ∧ (j ∈ js ∨ ∀ w, S' w → S w) ∧ wpAnyE P md ops Q js fuel (listed.setIfInBounds j true) a' S') Q) : wpAnyE P md ops Q js (fuel + 1) listed a S := by
  have hi : ops[j]? = some o := by
    have := congrArg (·[0]?) hi'
    simpa using this
  simp only [beq_iff_eq] at hr
  refine ⟨fun h0 => (by rw [h0] at hr; cases hr), fun i hi2 w hS => ?_⟩
  rw [hr] at hi2
  obtain rfl : i = j := by simpa using hi2
  unfold Go.wpOp
  simp only [hi, hw, if_true]
  exact .inl (h w hS)

/-- Two are ready, each of a kind whose value hangs on when it is done: both ways. -/
theorem wpAnyE_two (i j : Nat) {oi oj : Oper} {ti tj : List Oper} {fuel : Nat} {listed : Array Bool} {a : Act} (hi' : ops.toList.drop i = oi :: ti) (hj' : ops.toList.drop j = oj :: tj)
    (hr : (Region.ready md ops listed == [i, j]) = true) (hwi : Region.wanted oi (yielded ops a.tmps) = true) (hwj : Region.wanted oj (yielded ops a.tmps) = true)
    (h1 : ∀ w, S w → oi.wp P a w (fun a' w' => ∃ S', S' w' ∧ Stab S' ∧ (i ∈ js ∨ ∀ w, S' w → S w) ∧ wpAnyE P md ops Q js fuel (listed.setIfInBounds i true) a' S') Q)
    (h2 : ∀ w, S w → oj.wp P a w (fun a' w' => ∃ S', S' w' ∧ Stab S' ∧ (j ∈ js ∨ ∀ w, S' w → S w) ∧ wpAnyE P md ops Q js fuel (listed.setIfInBounds j true) a' S') Q) : wpAnyE P md ops Q js (fuel + 1) listed a S := by
  have hi : ops[i]? = some oi := by
    have := congrArg (·[0]?) hi'
    simpa using this
  have hj : ops[j]? = some oj := by
    have := congrArg (·[0]?) hj'
    simpa using this
  simp only [beq_iff_eq] at hr
  refine ⟨fun h0 => (by rw [h0] at hr; cases hr), fun k hk w hS => ?_⟩
  rw [hr] at hk
  simp only [List.mem_cons, List.not_mem_nil, or_false] at hk
  rcases hk with rfl | rfl
  · unfold Go.wpOp
    simp only [hi, hwi, if_true]
    exact .inl (h1 w hS)
  · unfold Go.wpOp
    simp only [hj, hwj, if_true]
    exact .inl (h2 w hS)

theorem wpAnyE_done {listed : Array Bool} {a : Act} (hr : ((Region.ready md ops listed).isEmpty) = true) (h : ∀ w, S w → Q .normal a w) :
    ∀ fuel, wpAnyE P md ops Q js fuel listed a S := by
  simp only [List.isEmpty_iff] at hr
  intro fuel
  cases fuel with
  | zero => exact ⟨hr, h⟩
  | succ n => exact ⟨fun _ => h, by rw [hr]; simp⟩

theorem wp_region_E {id : Nat} {a : Act} {w : World} (hm : P.follows .mixedOrders = true) (js : List Nat) {S : World → Prop} (_ : Stab S) (hS : S { w with drawn := w.drawn + 1 })
    (h : wpAnyE P .any ops Q js ops.size (Array.replicate ops.size false) a S) : (Code.region id ops true).wp P Q a w :=
  wp_region_any hm (wpAny_of_E _ _ _ _ _ h hS)

theorem EffB.pure {o : Oper} {v : Value} {a : Act} (hw : Region.wanted o (yielded ops a.tmps) = true) (h : ∀ w, (execOp a.eval o).run P w = .ok (.value v) w) : EffB P ops S o v a :=
  .inl ⟨hw, fun w hS => by unfold effB; rw [h w]; exact ⟨.inr rfl, Below.refl _ _⟩⟩

/-- An operation that its guard passes over. -/
theorem EffB.skip {o : Oper} {a : Act} (hw : Region.wanted o (yielded ops a.tmps) = false) : EffB P ops S o undef a := .inr ⟨hw, rfl⟩

/-- The slot has the value, and there are at most new blocks. -/
def GotB (a : Act) (d : Option Tmp) (v : Value) (w : World) : Act → World → Prop := fun a' w' => a' = a.put d v ∧ Below w.heap.size w w'

theorem EffB.run {o : Oper} {v : Value} {a : Act} (hw : Region.wanted o (yielded ops a.tmps) = true) (hd : (o.dst.all fun d => decide (d < a.tmps.size)) = true)
    (h : ∀ w, S w → o.wp P a w (GotB a o.dst v w) NoQ) : EffB P ops S o v a := by
  have inj : ∀ u, a.put o.dst u = a.put o.dst v → (o.dst = none ∨ u = v) := fun u hu => by
    cases hdst : o.dst with
    | none => exact .inl rfl
    | some d =>
      right
      rw [hdst] at hu
      have h1 : (a.tmps.setIfInBounds d u)[d]? = (a.tmps.setIfInBounds d v)[d]? := by
        have := congrArg Act.tmps hu
        simp only [Act.put] at this
        rw [this]
      have hlt : d < a.tmps.size := by rw [hdst] at hd; simpa using hd
      simpa [hlt] using h1
  refine .inl ⟨hw, fun w hS => ?_⟩
  have h : o.wp P a w (fun a' w' => a' = a.put o.dst v ∧ Below w.heap.size w w') NoQ := h w hS
  unfold effB
  unfold Oper.wp at h
  generalize (execOp a.eval o).run P w = r at *
  cases r with
  | ok n w' =>
    cases n <;> simp only [Oper.upon] at h ⊢
    case value u => exact ⟨inj _ h.1, h.2⟩
    case skip => exact ⟨inj _ h.1, h.2⟩
    case defer d =>
      have h1 := congrArg Act.defers h.1
      have h2 : (a.put o.dst v).defers = a.defers := by cases o.dst <;> rfl
      have h3 : (({ a with defers := d :: a.defers } : Act).put o.dst undef).defers = d :: a.defers := by cases o.dst <;> rfl
      rw [h2, h3] at h1
      exact absurd (congrArg List.length h1) (by simp)
    case enter f args =>
      refine h.mono fun e w'' he => ?_
      cases e with
      | returned u => exact ⟨⟨u, rfl, inj _ he.1⟩, he.2⟩
      | panicked c => exact (he : False).elim
      | outgrown => obtain ⟨_, _, hf⟩ := (he : LetsOut NoQ); exact (hf : False).elim
    case row row args => exact h.mono fun u w'' he => ⟨inj _ he.1, he.2⟩
  | halt x w' => cases x <;> simp only [Oper.upon, NoQ] at h
end
end Go.Proofs.Ytapgcbjlgekpeaa

/- Slices that a call owns: read, grown by append, carried. -/
namespace Go.Proofs.Ytapgcbjlgekpeaa
open Go.ChangeShapes Go.WideShapes Go.ChangeAt Go.RowKit

/-- A slice that begins at a new block's head (above B), with room that may be written; or nil. -/
def Owns (w : World) (B sz : Nat) (v : Value) (n : Nat) (xs : List Value) : Prop :=
  xs.length = n * sz ∧
  ((v = .slice none 0 0 ∧ n = 0) ∨
   ∃ g cap, v = .slice (some ⟨g, 0, none⟩) n cap ∧ B ≤ g ∧ g < w.heap.size ∧ n ≤ cap ∧
     (∀ j u, xs[j]? = some u → w.cell? ⟨g, j, none⟩ = some u) ∧
     (∀ j, j < cap * sz → (w.cell? ⟨g, j, none⟩).isSome = true ∧ w.frozen? ⟨g, j, none⟩ = false))

section
variable {w w' : World} {B sz : Nat} {v : Value} {n : Nat} {xs : List Value}

theorem owns_nil (w : World) (B sz : Nat) : Owns w B sz (.slice none 0 0) 0 [] := ⟨by simp, .inl ⟨rfl, rfl⟩⟩

theorem owns_of_row {e : TypeId} (h : w.ownsRow B e sz v n xs) : Owns w B sz v n xs := by
  refine ⟨h.1, ?_⟩
  rcases h.2 with h2 | ⟨g, cap, cur, rfl, hb, hg, hn, hm, hs, ht⟩
  · exact .inl h2
  · refine .inr ⟨g, cap, rfl, hb, lt_of_heap hg, hn, fun j u hu => ?_, fun j hj => ⟨?_, ?_⟩⟩
    · rw [cell_of_row w g j cur e (0, 0) hg]
      rw [← ht, List.getElem?_take] at hu
      split at hu
      · simpa using hu
      · cases hu
    · rw [cell_of_row w g j cur e (0, 0) hg]
      simp [hs, hj]
    · simp [World.frozen?, hg]

theorem Owns.lt (h : Owns w B sz v n xs) : ∀ k, v.ownBlock = some k → B ≤ k ∧ k < w.heap.size := by
  intro k hk
  rcases h.2 with ⟨rfl, _⟩ | ⟨g, cap, rfl, hb, hg, _⟩
  · simp [Value.ownBlock] at hk
  · simp [Value.ownBlock] at hk
    subst hk
    exact ⟨hb, hg⟩

theorem Owns.mono {B' : Nat} (h : Owns w B sz v n xs) (hb : B' ≤ B) : Owns w B' sz v n xs := by
  refine ⟨h.1, ?_⟩
  rcases h.2 with h2 | ⟨g, cap, h1, h2, h3⟩
  · exact .inl h2
  · exact .inr ⟨g, cap, h1, Nat.le_trans hb h2, h3⟩

theorem Owns.same (h : Owns w B sz v n xs) (hs : w.heap.size ≤ w'.heap.size) (hk : ∀ k, v.ownBlock = some k → w'.heap[k]? = w.heap[k]?) : Owns w' B sz v n xs := by
  refine ⟨h.1, ?_⟩
  rcases h.2 with h2 | ⟨g, cap, rfl, h2, h3, h4, h5, h6⟩
  · exact .inl h2
  · have hg := hk g rfl
    refine .inr ⟨g, cap, rfl, h2, by omega, h4, fun j u hu => ?_, fun j hj => ?_⟩
    · rw [World.cell?_of_block (w := w) (by exact hg)]; exact h5 j u hu
    · rw [World.cell?_of_block (w := w) (by exact hg), World.frozen?_of_block (w := w) (by exact hg)]; exact h6 j hj

theorem Owns.below (h : Owns w B sz v n xs) (hb : Below w.heap.size w w') : Owns w' B sz v n xs :=
  h.same hb.size fun k hk => hb.block k (h.lt k hk).2

theorem Owns.kept {row : Option Nat} (h : Owns w B sz v n xs) (hg : w.grownBy w' row) (hne : v.ownBlock = none ∨ v.ownBlock ≠ row) : Owns w' B sz v n xs :=
  h.same hg.size fun k hk => hg.block k (h.lt k hk).2 (by
    rw [← hk]
    rcases hne with h | h
    · rw [h] at hk; cases hk
    · exact h)

/-- What it is, and how it reads. -/
theorem Owns.sl (h : Owns w B sz v n xs) : ∃ p cap, v = .slice p n cap ∧ n ≤ cap ∧ (p = none → n = 0 ∧ cap = 0) ∧ Sl w p n sz (fun j => xs[j]?.getD undef) ∧
    ∀ ad, p = some ad → ∀ j u, xs[j]? = some u → w.cell? (ad.add j) = some u := by
  rcases h.2 with ⟨rfl, rfl⟩ | ⟨g, cap, rfl, h2, h3, h4, h5, h6⟩
  · exact ⟨none, 0, rfl, Nat.le_refl _, fun _ => ⟨rfl, rfl⟩, .inl rfl, fun _ h => by cases h⟩
  · refine ⟨_, cap, rfl, h4, fun h => (by cases h), Or.inr ⟨g, 0, rfl, h3, fun j hj => ?_⟩, fun ad had j u hu => ?_⟩
    · have hl : j < xs.length := by rw [h.1]; exact hj
      rw [Nat.zero_add]
      exact h5 j _ (by simp [hl])
    · obtain rfl : ad = ⟨g, 0, none⟩ := by simpa using had.symm
      have hadd : (⟨g, 0, none⟩ : Addr).add j = ⟨g, j, none⟩ := by unfold Addr.add; split <;> simp_all
      rw [hadd]
      exact h5 j u hu
end

theorem isSome_setCells (b : Nat) : ∀ (vs : List Value) (o : Nat) (w : World) (x : Addr), (w.cell? x).isSome = true → ((w.setCells b o vs).cell? x).isSome = true
  | [], _, _, _, h => h
  | v :: r, o, w, x, h => isSome_setCells b r (o + 1) _ x (by
      by_cases hx : x = ⟨b, o, none⟩
      · subst hx; obtain ⟨u, hu⟩ := Option.isSome_iff_exists.1 h; rw [World.cell?_setCell_same _ _ _ hu]; rfl
      · rw [World.cell?_setCell_other _ _ _ _ (fun e => hx e.symm)]; exact h)

theorem below_setCells (g : Nat) : ∀ (vs : List Value) (o : Nat) {w0 w : World}, Below g w0 w → Below g w0 (w.setCells g o vs)
  | [], _, _, _, h => h
  | v :: r, o, _, _, h => below_setCells g r (o + 1) (h.setCell (by simp) v)

theorem run_append_any {P : Program} (w : World) (B : Nat) (t ty e : TypeId) (i : TypeInfo) (z : Value) (size bytes : Nat) (ht : P.underlying t = some (.slice e)) (hi : P.info? e = some i) (hz : i.zero = some z)
    (hsize : i.size = size) (hby : i.bytes = bytes) (hzs : z.cells.size = size) (hsz : 0 < size)
    (v : Value) (n : Nat) (xs : List Value) (hown : Owns w B size v n xs)
    (ao : Option Addr) (m c : Nat) (news : List Value) (hl : news.length = m * size) (hnone : ao = none → m = 0 ∧ c = 0) (hnews : ∀ ad, ao = some ad → ∀ j u, news[j]? = some u → w.cell? (ad.add j) = some u) (h1 : ∀ u ∈ news, u.oneCell' = true)
    (h63 : n + m ≤ maxLen) (hbytes : (n + m) * bytes ≤ 140737488355328) (hB : B ≤ w.heap.size) :
    ∃ v' w', (Builtin.append_ #[t, t] ty #[v, .slice ao m c]).run P w = .ok v' w' ∧ Owns w' B size v' (n + m) (xs ++ news) ∧ w.grownBy w' v.ownBlock := by
  cases ao with
  | none =>
    obtain ⟨rfl, rfl⟩ := hnone rfl
    obtain rfl : news = [] := List.eq_nil_of_length_eq_zero (by simpa using hl)
    refine ⟨v, w, ?_, by simpa using hown, World.grownBy.refl _ _⟩
    rcases hown.2 with ⟨rfl, rfl⟩ | ⟨g, cap, rfl, _, _, hnc, _⟩
    · simp [Builtin.append_, run_underlying ht, sizeOf, typeInfo, hi, Builtin.lenOf, Builtin.firstCells]
    · simp [Builtin.append_, run_underlying ht, sizeOf, typeInfo, hi, Builtin.lenOf, Builtin.firstCells, hnc, storeCells]
  | some ad =>
    rcases hown.2 with ⟨rfl, rfl⟩ | ⟨g, cap, rfl, hb, hg, hnc, hx, hw⟩
    · obtain rfl : xs = [] := List.eq_nil_of_length_eq_zero (by simpa using hown.1)
      obtain ⟨v', w', hrun, r1, r2, _⟩ := run_append_own (P := P) w w.heap.size t ty e i z size bytes ht hi hz hsize hby hzs hsz (.slice none 0 0) 0 [] (World.ownsRow_nil w _ e size) ad m c news hl (hnews ad rfl) h1 h63 hbytes (Nat.le_refl _)
      exact ⟨v', w', hrun, (owns_of_row r1).mono hB, r2⟩
    · by_cases hr : n + m ≤ cap
      · have hspare : ∀ j, j < news.length → (w.cell? ⟨g, 0 + n * size + j, none⟩).isSome = true ∧ w.frozen? ⟨g, 0 + n * size + j, none⟩ = false := fun j hj => by
          have h2 : (n + m) * size ≤ cap * size := Nat.mul_le_mul_right _ hr
          rw [Nat.add_mul] at h2
          exact hw _ (by omega)
        have hrun := run_append_room_cells (P := P) w t ty e i ht hi g 0 n cap ad m c news (by rw [hsize]; exact hl) (hnews ad rfl) h1 hr (by rw [hsize]; exact fun j hj => (hspare j hj).1) (by rw [hsize]; exact fun j hj => (hspare j hj).2)
        rw [hsize] at hrun
        refine ⟨_, _, hrun, ⟨by rw [List.length_append, hown.1, hl, Nat.add_mul], .inr ⟨g, cap, rfl, hb, ?_, hr, fun j u hu => ?_, fun j hj => ⟨?_, ?_⟩⟩⟩, ?_⟩
        · have := (below_setCells g news (0 + n * size) (Below.refl g w)).size
          omega
        · by_cases hj : j < n * size
          · rw [List.getElem?_append_left (by rw [hown.1]; exact hj)] at hu
            rw [World.cell?_setCells_out g news _ w ⟨g, j, none⟩ (fun _ _ => .inl (by simp; omega))]
            exact hx j u hu
          · rw [List.getElem?_append_right (by rw [hown.1]; omega), hown.1] at hu
            have hlt := (List.getElem?_eq_some_iff.1 hu).1
            have := World.cell?_setCells_in g news (0 + n * size) w (fun j hj => (hspare j hj).1) (j - n * size) hlt
            rw [show 0 + n * size + (j - n * size) = j by omega] at this
            rw [this, ← hu, List.getElem?_eq_getElem hlt]
        · exact isSome_setCells _ _ _ _ _ (hw j hj).1
        · rw [World.frozen?_setCells]; exact (hw j hj).2
        · have hbl := below_setCells g news (0 + n * size) (Below.refl g w)
          refine ⟨hbl.os, hbl.tape, hbl.output, hbl.size, fun k hk hne => ?_⟩
          exact World.heap_setCells_other w g _ _ hk (fun h => hne (by rw [h]; rfl))
      · obtain ⟨v', w', hrun, r1, r2⟩ := run_append_arg_grows (P := P) w t ty e i z size bytes ht hi hz hsize hby hzs hsz ⟨g, 0, none⟩ n cap xs hown.1 (fun j u hu => by
          have hadd : (⟨g, 0, none⟩ : Addr).add j = ⟨g, j, none⟩ := by unfold Addr.add; split <;> simp_all
          rw [hadd]; exact hx j u hu) ad m c news hl (hnews ad rfl) (by omega) h63 hbytes
        exact ⟨v', w', hrun, (owns_of_row r1).mono hB, ⟨r2.os, r2.tape, r2.output, r2.size, fun k hk _ => r2.block k hk (by simp)⟩⟩


/-- A text's bytes. -/
def Str.bytes (s : ByteArray) : List Nat := s.data.toList.map (·.toNat)
theorem Str.length (s : ByteArray) : (Str.bytes s).length = s.size := by simp [Str.bytes]
theorem Str.at (s : ByteArray) (k : Nat) (h : k < s.size) : (s[k]'h).toNat = (Str.bytes s)[k]?.getD 0 := by
  have : (s[k]'h).toNat = ((s.data.toList[k]'(by simpa using h))).toNat := rfl
  rw [this]
  simp [Str.bytes, h]
theorem Str.lt (s : ByteArray) : ∀ n ∈ Str.bytes s, n < 256 := by
  intro n hn
  simp only [Str.bytes, List.mem_map] at hn
  obtain ⟨b, _, rfl⟩ := hn
  exact b.toNat_lt
theorem Str.at_lt (s : ByteArray) (k : Nat) : (Str.bytes s)[k]?.getD 0 < 256 := by
  cases h : (Str.bytes s)[k]? with
  | none => simp
  | some n => exact Str.lt s n (List.mem_of_getElem? h)
/-- The text of these bytes. -/
def Str.mk (l : List Nat) : ByteArray := ⟨(l.map UInt8.ofNat).toArray⟩
theorem Str.bytes_mk (l : List Nat) (h : ∀ n ∈ l, n < 256) : Str.bytes (Str.mk l) = l := by
  unfold Str.bytes Str.mk
  simp only [List.map_map]
  conv => rhs; rw [← List.map_id l]
  apply List.map_congr_left
  intro n hn
  have := h n hn
  simp
  omega
theorem Str.mk_bytes (s : ByteArray) : Str.mk (Str.bytes s) = s := by
  unfold Str.bytes Str.mk
  simp only [List.map_map]
  have : (UInt8.ofNat ∘ fun b : UInt8 => b.toNat) = id := by funext b; simp
  rw [this]
  simp
theorem Str.mk_size (l : List Nat) : (Str.mk l).size = l.length := by simp [Str.mk, ByteArray.size]

/-- Bytes as values. -/
def byteVals (l : List Nat) : List Value := l.map fun n : Nat => Value.int .u8 (n : Int)
theorem byteVals_len (l : List Nat) : (byteVals l).length = l.length := by simp [byteVals]
theorem byteVals_append (l m : List Nat) : byteVals (l ++ m) = byteVals l ++ byteVals m := by simp [byteVals]

section
variable {P : Program} {ops : Array Oper} {rest : List Oper} {o : Oper} {a : Act} {w : World} {Q : Exit → Act → World → Prop}

theorem run_bytes_own (w : World) (src dst e : TypeId) (s : ByteArray) (hs : P.underlying src = some .string) (hd : P.underlying dst = some (.slice e)) (he : P.underlying e = some (.int .u8)) :
    ∃ v w', (convert src dst (.string s)).run P w = .ok v w' ∧ Owns w' w.heap.size 1 v s.size (byteVals (Str.bytes s)) ∧ Below w.heap.size w w' := by
  refine ⟨_, _, run_bytes_of_string w src dst e s hs hd he, ⟨by rw [byteVals_len, Str.length]; omega, .inr ⟨w.heap.size, _, rfl, Nat.le_refl _, (by show _ < (w.heap.push _).size; simp), grownCap_ge _ _ _ _, fun j u hu => ?_, fun j hj => ?_⟩⟩, ?_⟩
  · have hr : (bytesRow s (grownCap w s.size 0 e))[j]? = some u := by
      have hlt := (List.getElem?_eq_some_iff.1 hu).1
      rw [byteVals_len, Str.length] at hlt
      unfold bytesRow
      rw [Array.getElem?_append_left (by simpa using hlt)]
      rw [← hu]
      simp [byteVals, Str.bytes]
      rfl
    exact (cell_of_row _ w.heap.size j _ e _ (heap_alloc_at _ _ _ rfl)).trans hr
  · have hsz : (bytesRow s (grownCap w s.size 0 e)).size = grownCap w s.size 0 e := by
      have := grownCap_ge w s.size 0 e
      simp [bytesRow]
      omega
    constructor
    · have hcell := cell_of_row (w.drew.alloc (.cells (bytesRow s (grownCap w s.size 0 e)) e ((bytesRow s (grownCap w s.size 0 e)).size, (bytesRow s (grownCap w s.size 0 e)).size + 1))) w.heap.size j _ e _ (heap_alloc_at _ _ _ rfl)
      rw [hcell, Array.getElem?_eq_getElem (by rw [hsz]; omega)]
      rfl
    · have hh : (w.drew.alloc (.cells (bytesRow s (grownCap w s.size 0 e)) e ((bytesRow s (grownCap w s.size 0 e)).size, (bytesRow s (grownCap w s.size 0 e)).size + 1))).heap[w.heap.size]? = _ := heap_alloc_at _ _ _ rfl
      simp only [World.frozen?, hh]
      rw [hsz]
      simp
      omega
  · exact ((Below.refl _ _).drew).alloc (Nat.le_refl _) _

/-- '[]byte(s)'. -/
theorem wpList_bytes_own (hgd : o.guard = none) (src dst : TypeId) (x : Operand) (ho : o.op = .convert src dst x) (e : TypeId) (s : ByteArray) (hx : a.eval x = .string s)
    (hs : P.underlying src = some .string) (hd : P.underlying dst = some (.slice e)) (he : P.underlying e = some (.int .u8))
    (h : ∀ v w', Owns w' w.heap.size 1 v s.size (byteVals (Str.bytes s)) → Below w.heap.size w w' → wpList P ops Q rest (a.put o.dst v) w') : wpList P ops Q (o :: rest) a w := by
  refine wpList_plain hgd fun K hK => ?_
  obtain ⟨v, w', hr, h1, h2⟩ := run_bytes_own (P := P) w src dst e s hs hd he
  unfold Oper.wp execOp
  simp only [ho, hx, Sem.run_bind, hr, Result.andThen_ok]
  exact hK _ _ (h v w' h1 h2)

theorem run_string_any (w : World) (src dst e : TypeId) (p : Option Addr) (cap : Nat) (l : List Nat) (hs : P.underlying src = some (.slice e)) (he : P.underlying e = some (.int .u8)) (hd : P.underlying dst = some .string)
    (hl : ∀ n ∈ l, n < 256) (hp : p = none → l.length = 0) (hc : ∀ ad, p = some ad → ∀ j u, (byteVals l)[j]? = some u → w.cell? (ad.add j) = some u) :
    (convert src dst (.slice p l.length cap)).run P w = .ok (.string (Str.mk l)) w := by
  cases p with
  | none =>
    obtain rfl : l = [] := List.eq_nil_of_length_eq_zero (hp rfl)
    show (convert src dst (.slice none 0 cap)).run P w = _
    rw [run_convert_bytes_string w src dst e none 0 cap hs he hd]
    simp [Conv.bytesToString, Str.mk]
    rfl
  | some ad =>
    have h := run_convert_bytes_back (P := P) w src dst e ad cap (l.map UInt8.ofNat) hs he hd (fun j hj => by
      have hj' : j < l.length := by simpa using hj
      rw [hc ad rfl j (Value.int .u8 ((l[j]'hj' : Nat) : Int)) (by simp [byteVals, hj'])]
      have := hl (l[j]'hj') (List.getElem_mem _)
      simp
      omega)
    rw [List.length_map] at h
    exact h

/-- 'append', whatever is appended, to a slice that the call owns. -/
theorem wpList_append_any (hgd : o.guard = none) (s x : Operand) (t : TypeId) (ho : o.op = .call { callee := .builtin .append, args := #[s, x], argTypes := #[t, t] })
    (B : Nat) (e : TypeId) (z : Value) (size bytes : Nat) (ht : P.underlying t = some (.slice e)) (hi : (P.info? e).map (fun i => (i.zero, i.size, i.bytes)) = some (some z, size, bytes)) (hzs : z.cells.size = size) (hsz : 0 < size)
    (v : Value) (n : Nat) (xs : List Value) (hs : a.eval s = v) (hown : Owns w B size v n xs)
    (ao : Option Addr) (m c : Nat) (news : List Value) (hx : a.eval x = .slice ao m c) (hl : news.length = m * size) (hnone : ao = none → m = 0 ∧ c = 0) (hnews : ∀ ad, ao = some ad → ∀ j u, news[j]? = some u → w.cell? (ad.add j) = some u) (h1 : ∀ u ∈ news, u.oneCell' = true)
    (h63 : n + m ≤ maxLen) (hbytes : (n + m) * bytes ≤ 140737488355328) (hB : B ≤ w.heap.size)
    (h : ∀ v' w', Owns w' B size v' (n + m) (xs ++ news) → w.grownBy w' v.ownBlock → wpList P ops Q rest (a.put o.dst v') w') : wpList P ops Q (o :: rest) a w := by
  refine wpList_plain hgd fun K hK => ?_
  obtain ⟨i, hi1, hi2, hi3, hi4⟩ := info_parts hi
  obtain ⟨v', w', hr, h2, h3⟩ := run_append_any (P := P) w B t o.type e i z size bytes ht hi1 hi2 hi3 hi4 hzs hsz v n xs hown ao m c news hl hnone hnews h1 h63 hbytes hB
  unfold Oper.wp execOp
  simp only [ho, resolve, invoke, builtin, Sem.run_bind, Sem.run_pure, Result.andThen_ok, List.map_toArray, List.map_cons, List.map_nil, hs, hx, hr]
  exact hK _ _ (h v' w' h2 h3)

theorem grown_trans {w w1 w2 : World} {row : Option Nat} (h : w.grownBy w1 row) (k : w1.grownBy w2 row) : w.grownBy w2 row :=
  ⟨k.os.trans h.os, k.tape.trans h.tape, k.output.trans h.output, Nat.le_trans h.size k.size, fun i hi hne => (k.block i (Nat.lt_of_lt_of_le hi h.size) hne).trans (h.block i hi hne)⟩

/-- 'append(s, x)': one element, laid in a new block just before. -/
theorem wpList_append_new (hgd : o.guard = none) (s x : Operand) (t : TypeId) (ho : o.op = .call { callee := .builtin .append, args := #[s, x], argTypes := #[t, t] })
    (w0 : World) (cs : Array Value) (T : TypeId) (hw : w = w0.alloc (.cells cs T))
    (B : Nat) (e : TypeId) (z : Value) (size bytes : Nat) (ht : P.underlying t = some (.slice e)) (hi : (P.info? e).map (fun i => (i.zero, i.size, i.bytes)) = some (some z, size, bytes)) (hzs : z.cells.size = size) (hsz : 0 < size)
    (v : Value) (n : Nat) (xs : List Value) (hs : a.eval s = v) (hown : Owns w0 B size v n xs)
    (hx : a.eval x = .slice (some ⟨w0.heap.size, 0, none⟩) 1 1) (hcs : cs.size = size) (h1 : ∀ u ∈ cs.toList, u.oneCell' = true)
    (h63 : n + 1 ≤ maxLen) (hbytes : (n + 1) * bytes ≤ 140737488355328) (hB : B ≤ w0.heap.size)
    (h : ∀ v' w', Owns w' B size v' (n + 1) (xs ++ cs.toList) → w0.grownBy w' v.ownBlock → Below B w0 w' → wpList P ops Q rest (a.put o.dst v') w') : wpList P ops Q (o :: rest) a w := by
  subst hw
  have hb1 : Below w0.heap.size w0 (w0.alloc (.cells cs T)) := below1 _ _
  have hown1 := hown.below hb1
  refine wpList_append_any hgd s x t ho B e z size bytes ht hi hzs hsz v n xs hs hown1 (some ⟨w0.heap.size, 0, none⟩) 1 1 cs.toList hx (by simpa using hcs) (fun h => by cases h) (fun ad had j u hu => ?_) h1 h63 hbytes (Nat.le_trans hB hb1.size) (fun v' w' k1 k2 => h v' w' k1 ?_ ?_)
  · obtain rfl : ad = ⟨w0.heap.size, 0, none⟩ := by simpa using had.symm
    have hadd : (⟨w0.heap.size, 0, none⟩ : Addr).add j = ⟨w0.heap.size, j, none⟩ := by unfold Addr.add; split <;> simp_all
    rw [hadd]
    exact (cell_of_row _ w0.heap.size j _ T (0, 0) (heap_alloc_at _ _ _ rfl)).trans (by simpa using hu)
  · exact grown_trans (World.grownBy_alloc w0 _ _) k2
  · exact (hb1.mono hB).grown k2 (Nat.le_trans hB hb1.size) (fun k hk => (hown.lt k hk).1)

theorem run_string_own (w : World) (src dst e : TypeId) {B : Nat} {v : Value} {n : Nat} {l : List Nat} (hs : P.underlying src = some (.slice e)) (he : P.underlying e = some (.int .u8)) (hd : P.underlying dst = some .string)
    (hl : ∀ n ∈ l, n < 256) (h : Owns w B 1 v n (byteVals l)) : (convert src dst v).run P w = .ok (.string (Str.mk l)) w := by
  have hn : n = l.length := by have := h.1; rw [byteVals_len] at this; omega
  subst hn
  obtain ⟨p, cap, rfl, _, h1, _, h2⟩ := h.sl
  exact run_string_any w src dst e p cap l hs he hd hl (fun h => (h1 h).1) h2
end
theorem u8Info : (Try.prog.info? 5).map (fun i => (i.zero, i.size, i.bytes)) = some (some (.int .u8 0), 1, 1) := by kernel_rfl
theorem i64Info : (Try.prog.info? 2).map (fun i => (i.zero, i.size, i.bytes)) = some (some (.int .i64 0), 1, 8) := by kernel_rfl
/-- Whole numbers as values. -/
def intVals (l : List Int) : List Value := l.map fun n : Int => Value.int .i64 n
theorem intVals_len (l : List Int) : (intVals l).length = l.length := by simp [intVals]
theorem intVals_append (l m : List Int) : intVals (l ++ m) = intVals l ++ intVals m := by simp [intVals]

/-- What a call owns reads as whole numbers. -/
theorem ints_of_owns {w : World} {B : Nat} {v : Value} {l : List Int} (h : Owns w B 1 v l.length (intVals l)) : ∃ p cap, v = .slice p l.length cap ∧ l.length ≤ cap ∧ Ints .i64 w p l := by
  obtain ⟨p, cap, hv, hc, _, hs, _⟩ := h.sl
  refine ⟨p, cap, hv, hc, ?_⟩
  rcases hs with hs | ⟨b, off, hp, hb, hcell⟩
  · exact .inl hs
  · refine .inr ⟨b, off, hp, hb, fun j hj => ?_⟩
    rw [hcell j hj]
    have hj' : j < l.length := by omega
    simp [intVals, hj']
theorem ints_alloc (w : World) (l : List Int) (T : TypeId) (cs : Array Value) (h : cs = (intVals l).toArray) : Ints .i64 (w.alloc (.cells cs T)) (some ⟨w.heap.size, 0, none⟩) l := by
  subst h
  refine .inr ⟨w.heap.size, 0, rfl, by simp, fun j hj => ?_⟩
  rw [World.cell?_alloc_at _ _ _ _ (by simp), Nat.zero_add]
  have hj' : j < l.length := by omega
  simp [intVals, hj']

end Go.Proofs.Ytapgcbjlgekpeaa

/- Numbers of 128 bits, bit by bit, as rows of truth values. -/
namespace Go.Proofs.Ytapgcbjlgekpeaa
open Go.ChangeShapes Go.WideShapes Go.ChangeAt Go.RowKit

namespace Bits
/-- A row of n truth values. -/
def row (n : Nat) (f : Nat → Bool) : Array Value := ((List.range n).map fun i => Value.bool (f i)).toArray

theorem row_size (n : Nat) (f : Nat → Bool) : (row n f).size = n := by simp [row]
theorem row_get (n : Nat) (f : Nat → Bool) (i : Nat) (h : i < n) : (row n f)[i]? = some (.bool (f i)) := by
  simp [row, h]
theorem row_ext (n : Nat) (f g : Nat → Bool) (h : ∀ i, i < n → f i = g i) : row n f = row n g := by
  unfold row
  congr 1
  apply List.map_congr_left
  intro i hi
  rw [h i (by simpa using hi)]
theorem row_set (n : Nat) (f : Nat → Bool) (k : Nat) (b : Bool) : (row n f).setIfInBounds k (.bool b) = row n (fun i => if i = k then b else f i) := by
  apply Array.ext
  · simp [row]
  · intro i h1 h2
    simp only [row, Array.size_setIfInBounds, List.size_toArray, List.length_map, List.length_range] at h1
    rw [Array.getElem_setIfInBounds (by rw [row_size]; exact h1)]
    simp only [row, List.getElem_toArray, List.getElem_map, List.getElem_range]
    by_cases hk : k = i
    · subst hk; simp
    · rw [if_neg hk, if_neg (Ne.symm hk)]
theorem row_inj (n : Nat) (f g : Nat → Bool) (h : row n f = row n g) : ∀ i, i < n → f i = g i := by
  intro i hi
  have h1 := row_get n f i hi
  rw [h, row_get n g i hi] at h1
  simpa using h1.symm

/-- The value of a number of 128 bits. -/
def num (x : Nat) : Array Value := row 128 x.testBit
theorem num_size (x : Nat) : (num x).size = 128 := row_size _ _
theorem num_get (x i : Nat) (h : i < 128) : (num x)[i]? = some (.bool (x.testBit i)) := row_get _ _ _ h
theorem num_inj {x y : Nat} (hx : x < 2 ^ 128) (hy : y < 2 ^ 128) (h : num x = num y) : x = y := by
  apply Nat.eq_of_testBit_eq
  intro i
  by_cases hi : i < 128
  · exact row_inj _ _ _ h i hi
  · rw [Nat.testBit_lt_two_pow (Nat.lt_of_lt_of_le hx (Nat.pow_le_pow_right (by omega) (by omega))), Nat.testBit_lt_two_pow (Nat.lt_of_lt_of_le hy (Nat.pow_le_pow_right (by omega) (by omega)))]

theorem div_step (x i : Nat) : x / 2 ^ i = 2 * (x / 2 ^ (i + 1)) + (x.testBit i).toNat := by
  rw [Nat.pow_succ, ← Nat.div_div_eq_div_mul, Nat.toNat_testBit]
  omega

theorem testBit_words (hi lo : Nat) (hl : lo < 2 ^ 64) (i : Nat) : (hi * 2 ^ 64 + lo).testBit i = if i < 64 then lo.testBit i else hi.testBit (i - 64) := by
  rw [Nat.mul_comm, Nat.two_pow_add_eq_or_of_lt hl, Nat.testBit_or, Nat.testBit_two_pow_mul]
  by_cases h : i < 64
  · simp [h]
    omega
  · have h2 : lo.testBit i = false := Nat.testBit_lt_two_pow (Nat.lt_of_lt_of_le hl (Nat.pow_le_pow_right (by omega) (by omega)))
    simp [h, h2]
    omega

/-- The carry behind k bits of a sum. -/
def carry (a b k : Nat) : Nat := (a % 2 ^ k + b % 2 ^ k) / 2 ^ k
theorem carry_le (a b k : Nat) : carry a b k ≤ 1 := by
  unfold carry
  have h1 := Nat.mod_lt a (Nat.two_pow_pos k)
  have h2 := Nat.mod_lt b (Nat.two_pow_pos k)
  have := Nat.div_lt_of_lt_mul (m := a % 2 ^ k + b % 2 ^ k) (n := 2 ^ k) (k := 2) (by omega)
  omega
theorem carry_step (a b k : Nat) : carry a b (k + 1) = (carry a b k + (a.testBit k).toNat + (b.testBit k).toNat) / 2 ∧ (a + b).testBit k = decide ((carry a b k + (a.testBit k).toNat + (b.testBit k).toNat) % 2 = 1) := by
  have hp : 0 < 2 ^ k := Nat.two_pow_pos k
  have ea : a % 2 ^ (k + 1) = a % 2 ^ k + 2 ^ k * (a.testBit k).toNat := by rw [Nat.mod_pow_succ, Nat.toNat_testBit]
  have eb : b % 2 ^ (k + 1) = b % 2 ^ k + 2 ^ k * (b.testBit k).toNat := by rw [Nat.mod_pow_succ, Nat.toNat_testBit]
  constructor
  · unfold carry
    rw [ea, eb, Nat.pow_succ, ← Nat.div_div_eq_div_mul]
    congr 1
    rw [show a % 2 ^ k + 2 ^ k * (a.testBit k).toNat + (b % 2 ^ k + 2 ^ k * (b.testBit k).toNat) = (a % 2 ^ k + b % 2 ^ k) + 2 ^ k * ((a.testBit k).toNat + (b.testBit k).toNat) by rw [Nat.mul_add]; omega, Nat.add_mul_div_left _ _ hp]
    omega
  · have hs : (a + b) / 2 ^ k = (a % 2 ^ k + b % 2 ^ k) / 2 ^ k + (a / 2 ^ k + b / 2 ^ k) := by
      have h1 := Nat.div_add_mod a (2 ^ k)
      have h2 := Nat.div_add_mod b (2 ^ k)
      have h3 : a + b = (a % 2 ^ k + b % 2 ^ k) + 2 ^ k * (a / 2 ^ k + b / 2 ^ k) := by rw [Nat.mul_add]; omega
      conv => lhs; rw [h3]
      rw [Nat.add_mul_div_left _ _ hp]
    unfold carry
    rw [Nat.testBit_eq_decide_div_mod_eq, hs, Nat.toNat_testBit, Nat.toNat_testBit]
    congr 1
    rw [eq_iff_iff]
    omega
theorem carry_end (a b : Nat) (ha : a < 2 ^ 128) (hb : b < 2 ^ 128) : (carry a b 128 = 0 ↔ a + b < 2 ^ 128) := by
  unfold carry
  rw [Nat.mod_eq_of_lt ha, Nat.mod_eq_of_lt hb]
  omega
end Bits
end Go.Proofs.Ytapgcbjlgekpeaa

/- Laws of the walk on numbers of 128 bits that lie in memory, bit by bit. -/
namespace Go.Proofs.Ytapgcbjlgekpeaa
open Go.ChangeShapes Go.WideShapes Go.ChangeAt Go.RowKit

theorem row_oneCell (n : Nat) (f : Nat → Bool) : (Bits.row n f).all (·.oneCell') = true := by
  rw [Array.all_eq_true_iff_forall_mem]
  intro v hv
  simp only [Bits.row, List.mem_toArray, List.mem_map, List.mem_range] at hv
  obtain ⟨i, _, rfl⟩ := hv
  rfl

theorem num_oneCell (x : Nat) : (Bits.num x).all (·.oneCell') = true := row_oneCell _ _
end Go.Proofs.Ytapgcbjlgekpeaa

/- Arguments, opened. -/
namespace Go.Proofs.Ytapgcbjlgekpeaa
open Go.ChangeShapes Go.WideShapes Go.ChangeAt Go.RowKit Go.Joins Go.Deep

theorem nat_u64 {a : Int} (h : (Lit.int .u64 a).wf = true) : ∃ n : Nat, a = n ∧ n < 18446744073709551616 := by
  obtain ⟨h0, h1⟩ := U64.of_wf h
  exact ⟨a.toNat, by omega, by omega⟩
theorem nat_u8 {a : Int} (h : (Lit.int .u8 a).wf = true) : ∃ n : Nat, a = n ∧ n < 256 := by
  obtain ⟨h0, h1⟩ := U8.of_wf h
  exact ⟨a.toNat, by omega, by omega⟩

/-- A struct of two integers. -/
theorem open_pair {H : Type} {enc : TypeId × Value → H} {P : Program} {w : World} {base : Nat} {sp : Nat → Bool} {hd : Bool} {r : Reach} {b0 : Nat} {t : TypeId} {f0 f1 : Field} {k0 k1 : IntKind} {v : Value} {d : DataW H} {ps : List MemPlace}
    (hs : P.underlying t = some (.struct #[f0, f1])) (hone : oneCellFields P #[f0, f1] = true) (hC : P.cellsOf t = 2) (h0 : P.underlying f0.type = some (.int k0)) (h1 : P.underlying f1.type = some (.int k1))
    (hv : Value.okWide P w r b0 t v) (h : DataW.Trod enc P w base sp hd t v d ps) :
    ∃ a b : Int, v = .agg #[.int k0 a, .int k1 b] ∧ (Lit.int k0 a).wf = true ∧ (Lit.int k1 b).wf = true ∧ ps = [] := by
  obtain ⟨c0, c1, y0, y1, m, rfl, rfl, rfl, e0, e1⟩ := open_agg2 hs hone hC hv h
  obtain ⟨a, i0, j0, wa⟩ := DataW.trod_int h0 e0
  obtain ⟨b, i1, j1, wb⟩ := DataW.trod_int h1 e1
  simp at i0 i1
  subst i0 i1
  exact ⟨a, b, rfl, wa, wb, by rw [j0, j1]; rfl⟩
theorem open_IntsC {H : Type} {enc : TypeId × Value → H} {P : Program} {w : World} {base : Nat} {sp : Nat → Bool} {hd : Bool} {r : Reach} {b0 : Nat} {t e : TypeId} {k : IntKind} {v : Value} {d : DataW H} {ps : List MemPlace}
    (ht : P.underlying t = some (.slice e)) (he : P.underlying e = some (.int k)) (hc : P.cellsOf e = 1) (hv : Value.okWide P w r b0 t v) (h : DataW.Trod enc P w base sp hd t v d ps) (hlt : ∀ x ∈ ps, x.block < w.heap.size) :
    ∃ (p : Option Addr) (cap : Nat) (l : List Int), v = .slice p l.length cap ∧ Ints k w p l ∧ (∀ n ∈ l, (Lit.int k n).wf = true) ∧ l.length ≤ 9223372036854775807 ∧ l.length ≤ cap := by
  obtain ⟨a0, len, cap, rfl⟩ := okWide_slice ht hv
  obtain ⟨fuel, hf⟩ := h
  rcases open_ints ht he hc hf with ⟨hcs, hx⟩ | ⟨a, len', cap', zs, hcs, _, hl, hm, hz, hx, hcell, hwz⟩
  · simp [Value.cells] at hcs
    obtain ⟨rfl, rfl, rfl⟩ := hcs
    exact ⟨none, 0, [], rfl, Or.inl rfl, by simp, by simp, by simp⟩
  · simp [Value.cells] at hcs
    obtain ⟨rfl, rfl, rfl⟩ := hcs
    simp only [Prod.mk.injEq] at hx
    obtain ⟨_, hps⟩ := hx
    have hlen : (zs.take len).length = len := by
      rw [List.length_take, hz]
      split <;> omega
    unfold maxLen at hm
    refine ⟨some a, cap, zs.take len, by rw [hlen], ?_, fun n hn => hwz n (List.mem_of_mem_take hn), by omega, by omega⟩
    unfold Ints
    rw [hlen]
    by_cases h0 : len = 0
    · exact Or.inl h0
    · have hzl : len ≤ zs.length := by rw [hz]; split <;> omega
      have h1 := hcell 0 (by omega)
      have hspot : a.spot = none := by
        cases hs : a.spot with
        | none => rfl
        | some s =>
          exfalso
          unfold World.cell? at h1
          simp only [Addr.add, if_true] at h1
          split at h1 <;> simp [hs] at h1
      obtain ⟨b, off, s⟩ := a
      subst hspot
      refine Or.inr ⟨b, off, rfl, ?_, fun j hj => ?_⟩
      · exact hlt (.cell b off) (by rw [hps]; unfold MemPlace.row; simp only [List.mem_map, List.mem_range]; exact ⟨0, by omega, by simp⟩)
      · have := hcell j (by omega)
        have e : (⟨b, off, none⟩ : Addr).add j = ⟨b, off + j, none⟩ := by
          unfold Addr.add
          split
          · rename_i h; subst h; rfl
          · rfl
        rw [e] at this
        rw [this]
        simp only [List.getD_eq_getElem?_getD]
        rw [List.getElem?_take_of_lt (by omega)]


/-- Bytes. -/
theorem nats_of (l : List Int) (h : ∀ n ∈ l, (Lit.int .u8 n).wf = true) : ∃ m : List Nat, l = m.map Int.ofNat ∧ ∀ n ∈ m, n < 256 := by
  refine ⟨l.map Int.toNat, ?_, fun n hn => ?_⟩
  · rw [List.map_map]
    conv => lhs; rw [← List.map_id l]
    apply List.map_congr_left
    intro n hn
    obtain ⟨k, rfl, _⟩ := nat_u8 (h n hn)
    rfl
  · obtain ⟨k, hk, rfl⟩ := List.mem_map.1 hn
    obtain ⟨m, rfl, hm⟩ := nat_u8 (h k hk)
    exact hm
end Go.Proofs.Ytapgcbjlgekpeaa

/- Arguments that are structs of whole numbers, and slices of such; opened. -/
namespace Go.Proofs.Ytapgcbjlgekpeaa
open Go.ChangeShapes Go.WideShapes Go.ChangeAt Go.RowKit Go.Deep

section
variable {H : Type} {enc : TypeId × Value → H} {P : Program} {w : World} {base : Nat} {sp : Nat → Bool} {hd : Bool}

theorem struct_ints {t : TypeId} {fs : Array Field} {k : IntKind} {fuel : Nat} {cs : List Value} {x : DataW H × List MemPlace} (hs : P.underlying t = some (.struct fs)) (hone : oneCellFields P fs = true) (hC : P.cellsOf t = fs.size)
    (hk : (fs.toList.map fun f => P.underlying f.type) = List.replicate fs.size (some (.int k))) (h : DataW.trod enc P w base sp hd fuel t cs = some x) :
    ∃ l : List Int, l.length = fs.size ∧ cs = l.map (Value.int k) ∧ (∀ a ∈ l, (Lit.int k a).wf = true) ∧ x.2 = [] := by
  obtain ⟨xs, n, _, rfl, hl, hlen, hf⟩ := DataW.trod_struct hs h
  have hcl : cs.length = fs.size := hl.trans hC
  have key : ∀ j (hj : j < fs.size), ∃ a, cs[j]? = some (Value.int k a) ∧ (Lit.int k a).wf = true ∧ ∀ y, xs[j]? = some y → y.2 = [] := by
    intro j hj
    have hfj : fs[j]? = some fs[j] := Array.getElem?_eq_getElem hj
    obtain ⟨ho, h1⟩ := hone_of hone j _ hfj
    have hkj : P.underlying fs[j].type = some (.int k) := by
      have := congrArg (fun l : List (Option TypeDesc) => l[j]?) hk
      simpa [hj] using this
    have hg := hf j _ hfj
    have hxs : xs[j]? = some (xs[j]'(by omega)) := List.getElem?_eq_getElem (by omega)
    rw [ho, h1, List.drop_eq_getElem_cons (by omega), hxs] at hg
    obtain ⟨a, e1, e2, e3⟩ := DataW.trod_int hkj hg
    simp only [List.take_succ_cons, List.take_zero, List.cons.injEq, and_true] at e1
    refine ⟨a, by rw [List.getElem?_eq_getElem (by omega), e1], e3, fun y hy => ?_⟩
    rw [hxs] at hy
    cases hy
    rw [e2]
  refine ⟨cs.map fun v => match v with | .int _ a => a | _ => 0, by simp [hcl], ?_, ?_, ?_⟩
  · apply List.ext_getElem?
    intro j
    by_cases hj : j < fs.size
    · obtain ⟨a, h1, _⟩ := key j hj
      simp [h1]
    · rw [List.getElem?_eq_none (by omega), List.getElem?_eq_none (by simp; omega)]
  · intro a ha
    obtain ⟨v, hv, rfl⟩ := List.mem_map.1 ha
    obtain ⟨j, hj, rfl⟩ := List.mem_iff_getElem.1 hv
    obtain ⟨b, h1, h2, _⟩ := key j (by omega)
    rw [List.getElem?_eq_getElem hj] at h1
    simp only [Option.some.injEq] at h1
    rw [h1]
    exact h2
  · simp only [List.flatMap_eq_nil_iff]
    intro y hy
    obtain ⟨j, hj, rfl⟩ := List.mem_iff_getElem.1 hy
    obtain ⟨_, _, _, h3⟩ := key j (by omega)
    exact h3 _ (List.getElem?_eq_getElem hj)

/-- A struct of whole numbers of one kind. -/
theorem open_ints_struct {r : Reach} {b0 : Nat} {t : TypeId} {fs : Array Field} {k : IntKind} {v : Value} {d : DataW H} {ps : List MemPlace} (hs : P.underlying t = some (.struct fs)) (hone : oneCellFields P fs = true) (hC : P.cellsOf t = fs.size)
    (hk : (fs.toList.map fun f => P.underlying f.type) = List.replicate fs.size (some (.int k))) (hv : Value.okWide P w r b0 t v) (h : DataW.Trod enc P w base sp hd t v d ps) :
    ∃ l : List Int, l.length = fs.size ∧ v = .agg (l.map (Value.int k)).toArray ∧ (∀ a ∈ l, (Lit.int k a).wf = true) ∧ ps = [] := by
  obtain ⟨cs, rfl, hsz⟩ := okWide_struct hs hv
  obtain ⟨fuel, hf⟩ := h
  obtain ⟨l, h1, h2, h3, h4⟩ := struct_ints hs hone hC hk hf
  refine ⟨l, h1, ?_, h3, h4⟩
  rw [← h2]
  simp [Value.cells]

/-- A slice of structs of n whole numbers, that lies in memory. -/
def Rows (k : IntKind) (n : Nat) (w : World) (p : Option Addr) (l : List (List Int)) : Prop := Sl w p l.length n (fun j => .int k ((l[j / n]?.getD [])[j % n]?.getD 0))

theorem open_Rows {r : Reach} {b0 : Nat} {t e : TypeId} {fs : Array Field} {k : IntKind} {v : Value} {d : DataW H} {ps : List MemPlace} (ht : P.underlying t = some (.slice e)) (hs : P.underlying e = some (.struct fs)) (hone : oneCellFields P fs = true)
    (hC : P.cellsOf e = fs.size) (hpos : 0 < fs.size) (hk : (fs.toList.map fun f => P.underlying f.type) = List.replicate fs.size (some (.int k))) (hv : Value.okWide P w r b0 t v) (h : DataW.Trod enc P w base sp hd t v d ps) (hlt : ∀ x ∈ ps, x.block < w.heap.size) :
    ∃ (p : Option Addr) (cap : Nat) (l : List (List Int)), v = .slice p l.length cap ∧ Rows k fs.size w p l ∧ (∀ r ∈ l, r.length = fs.size ∧ ∀ a ∈ r, (Lit.int k a).wf = true) ∧ l.length ≤ 9223372036854775807 := by
  obtain ⟨a0, len0, cap0, rfl⟩ := okWide_slice ht hv
  obtain ⟨fuel, hf⟩ := h
  rcases open_slice ht hf with ⟨hcs, hx⟩ | ⟨a, len, cap, m, n, D, Pl, hcs, _, hl, hm, hmm, hx, hi⟩
  · simp [Value.cells] at hcs
    obtain ⟨rfl, rfl, rfl⟩ := hcs
    exact ⟨none, 0, [], rfl, Or.inl rfl, by simp, by simp⟩
  · simp [Value.cells] at hcs
    obtain ⟨rfl, rfl, rfl⟩ := hcs
    simp only [Prod.mk.injEq] at hx
    obtain ⟨_, hps⟩ := hx
    unfold maxLen at hm
    have hml : len0 ≤ m := by rw [hmm]; split <;> omega
    have row : ∀ i, i < len0 → ∃ r : List Int, r.length = fs.size ∧ (∀ b ∈ r, (Lit.int k b).wf = true) ∧ ∀ j, j < fs.size → w.cell? (a.add (i * fs.size + j)) = some (.int k (r[j]?.getD 0)) := by
      intro i hil
      obtain ⟨cs', hc, hr⟩ := hi i (by omega)
      rw [hC] at hc
      obtain ⟨l, h1, h2, h3, _⟩ := struct_ints hs hone hC hk hr
      obtain ⟨_, hcl, hat⟩ := World.cells?_some hc
      refine ⟨l, h1, h3, fun j hj => ?_⟩
      have := hat j hj
      rw [add_add] at this
      rw [this, h2]
      simp [List.getElem?_eq_getElem (show j < l.length by omega)]
    have rows : ∃ l : List (List Int), l.length = len0 ∧ ∀ i (hi : i < len0), ∃ r, l[i]? = some r ∧ r.length = fs.size ∧ (∀ b ∈ r, (Lit.int k b).wf = true) ∧ ∀ j, j < fs.size → w.cell? (a.add (i * fs.size + j)) = some (.int k (r[j]?.getD 0)) := by
      refine ⟨(List.range len0).attach.map fun i => (row i.1 (List.mem_range.1 i.2)).choose, by simp, fun i hil => ?_⟩
      refine ⟨_, ?_, (row i hil).choose_spec⟩
      simp [hil]
    obtain ⟨l, hll, hrow⟩ := rows
    refine ⟨some a, cap0, l, by rw [hll], ?_, ?_, by omega⟩
    · unfold Rows
      rw [hll]
      by_cases h0 : len0 = 0
      · exact Or.inl h0
      · obtain ⟨r0, _, _, _, hc0⟩ := hrow 0 (by omega)
        have h1 := hc0 0 hpos
        have hspot : a.spot = none := by
          cases hsp : a.spot with
          | none => rfl
          | some s =>
            exfalso
            unfold World.cell? at h1
            simp only [Addr.add, Nat.zero_mul, Nat.add_zero, if_true] at h1
            split at h1 <;> simp [hsp] at h1
        obtain ⟨b, off, s⟩ := a
        subst hspot
        have hadd : ∀ z, (⟨b, off, none⟩ : Addr).add z = ⟨b, off + z, none⟩ := by
          intro z
          unfold Addr.add
          split
          · rename_i h; subst h; rfl
          · rfl
        refine Or.inr ⟨b, off, rfl, ?_, fun j hj => ?_⟩
        · refine hlt (.cell b off) ?_
          rw [hps, List.mem_append]
          left
          unfold MemPlace.row
          simp only [List.mem_map, List.mem_range]
          refine ⟨0, ?_, by simp⟩
          rw [hC]
          exact Nat.mul_pos (by omega) hpos
        · have hq : j / fs.size < len0 := Nat.div_lt_of_lt_mul (by rw [Nat.mul_comm]; exact hj)
          obtain ⟨r, hr1, _, _, hr4⟩ := hrow (j / fs.size) hq
          have := hr4 (j % fs.size) (Nat.mod_lt _ hpos)
          rw [hadd, Nat.div_add_mod'] at this
          show _ = some (Value.int k ((l[j / fs.size]?.getD [])[j % fs.size]?.getD 0))
          rw [this, hr1]
          rfl
    · intro r hr
      obtain ⟨i, hil, rfl⟩ := List.mem_iff_getElem.1 hr
      obtain ⟨r', h1, h2, h3, _⟩ := hrow i (by omega)
      rw [List.getElem?_eq_getElem hil] at h1
      simp only [Option.some.injEq] at h1
      rw [h1]
      exact ⟨h2, h3⟩
end
end Go.Proofs.Ytapgcbjlgekpeaa

/- append, once more: where what was appended to lies. -/
namespace Go.Proofs.Ytapgcbjlgekpeaa
open Go.ChangeShapes Go.WideShapes Go.ChangeAt Go.RowKit

theorem run_append_any2 {P : Program} (w : World) (B : Nat) (t ty e : TypeId) (i : TypeInfo) (z : Value) (size bytes : Nat) (ht : P.underlying t = some (.slice e)) (hi : P.info? e = some i) (hz : i.zero = some z)
    (hsize : i.size = size) (hby : i.bytes = bytes) (hzs : z.cells.size = size) (hsz : 0 < size)
    (v : Value) (n : Nat) (xs : List Value) (hown : Owns w B size v n xs)
    (ao : Option Addr) (m c : Nat) (news : List Value) (hl : news.length = m * size) (hnone : ao = none → m = 0 ∧ c = 0) (hnews : ∀ ad, ao = some ad → ∀ j u, news[j]? = some u → w.cell? (ad.add j) = some u) (h1 : ∀ u ∈ news, u.oneCell' = true)
    (h63 : n + m ≤ maxLen) (hbytes : (n + m) * bytes ≤ 140737488355328) (hB : B ≤ w.heap.size) :
    ∃ v' w', (Builtin.append_ #[t, t] ty #[v, .slice ao m c]).run P w = .ok v' w' ∧ Owns w' B size v' (n + m) (xs ++ news) ∧ w.grownBy w' v.ownBlock ∧ (v'.ownBlock = v.ownBlock ∨ ∀ k, v'.ownBlock = some k → w.heap.size ≤ k) := by
  cases ao with
  | none =>
    obtain ⟨rfl, rfl⟩ := hnone rfl
    obtain rfl : news = [] := List.eq_nil_of_length_eq_zero (by simpa using hl)
    refine ⟨v, w, ?_, by simpa using hown, World.grownBy.refl _ _, .inl rfl⟩
    rcases hown.2 with ⟨rfl, rfl⟩ | ⟨g, cap, rfl, _, _, hnc, _⟩
    · simp [Builtin.append_, run_underlying ht, sizeOf, typeInfo, hi, Builtin.lenOf, Builtin.firstCells]
    · simp [Builtin.append_, run_underlying ht, sizeOf, typeInfo, hi, Builtin.lenOf, Builtin.firstCells, hnc, storeCells]
  | some ad =>
    rcases hown.2 with ⟨rfl, rfl⟩ | ⟨g, cap, rfl, hb, hg, hnc, hx, hw⟩
    · obtain rfl : xs = [] := List.eq_nil_of_length_eq_zero (by simpa using hown.1)
      obtain ⟨v', w', hrun, r1, r2, _⟩ := run_append_own (P := P) w w.heap.size t ty e i z size bytes ht hi hz hsize hby hzs hsz (.slice none 0 0) 0 [] (World.ownsRow_nil w _ e size) ad m c news hl (hnews ad rfl) h1 h63 hbytes (Nat.le_refl _)
      exact ⟨v', w', hrun, (owns_of_row r1).mono hB, r2, .inr (fun k hk => ((owns_of_row r1).lt k hk).1)⟩
    · by_cases hr : n + m ≤ cap
      · have hspare : ∀ j, j < news.length → (w.cell? ⟨g, 0 + n * size + j, none⟩).isSome = true ∧ w.frozen? ⟨g, 0 + n * size + j, none⟩ = false := fun j hj => by
          have h2 : (n + m) * size ≤ cap * size := Nat.mul_le_mul_right _ hr
          rw [Nat.add_mul] at h2
          exact hw _ (by omega)
        have hrun := run_append_room_cells (P := P) w t ty e i ht hi g 0 n cap ad m c news (by rw [hsize]; exact hl) (hnews ad rfl) h1 hr (by rw [hsize]; exact fun j hj => (hspare j hj).1) (by rw [hsize]; exact fun j hj => (hspare j hj).2)
        rw [hsize] at hrun
        refine ⟨_, _, hrun, ⟨by rw [List.length_append, hown.1, hl, Nat.add_mul], .inr ⟨g, cap, rfl, hb, ?_, hr, fun j u hu => ?_, fun j hj => ⟨?_, ?_⟩⟩⟩, ?_, .inl rfl⟩
        · have := (below_setCells g news (0 + n * size) (Below.refl g w)).size
          omega
        · by_cases hj : j < n * size
          · rw [List.getElem?_append_left (by rw [hown.1]; exact hj)] at hu
            rw [World.cell?_setCells_out g news _ w ⟨g, j, none⟩ (fun _ _ => .inl (by simp; omega))]
            exact hx j u hu
          · rw [List.getElem?_append_right (by rw [hown.1]; omega), hown.1] at hu
            have hlt := (List.getElem?_eq_some_iff.1 hu).1
            have := World.cell?_setCells_in g news (0 + n * size) w (fun j hj => (hspare j hj).1) (j - n * size) hlt
            rw [show 0 + n * size + (j - n * size) = j by omega] at this
            rw [this, ← hu, List.getElem?_eq_getElem hlt]
        · exact isSome_setCells _ _ _ _ _ (hw j hj).1
        · rw [World.frozen?_setCells]; exact (hw j hj).2
        · have hbl := below_setCells g news (0 + n * size) (Below.refl g w)
          refine ⟨hbl.os, hbl.tape, hbl.output, hbl.size, fun k hk hne => ?_⟩
          exact World.heap_setCells_other w g _ _ hk (fun h => hne (by rw [h]; rfl))
      · obtain ⟨v', w', hrun, r1, r2⟩ := run_append_arg_grows (P := P) w t ty e i z size bytes ht hi hz hsize hby hzs hsz ⟨g, 0, none⟩ n cap xs hown.1 (fun j u hu => by
          have hadd : (⟨g, 0, none⟩ : Addr).add j = ⟨g, j, none⟩ := by unfold Addr.add; split <;> simp_all
          rw [hadd]; exact hx j u hu) ad m c news hl (hnews ad rfl) (by omega) h63 hbytes
        exact ⟨v', w', hrun, (owns_of_row r1).mono hB, ⟨r2.os, r2.tape, r2.output, r2.size, fun k hk _ => r2.block k hk (by simp)⟩, .inr (fun k hk => ((owns_of_row r1).lt k hk).1)⟩

section
variable {P : Program} {ops : Array Oper} {rest : List Oper} {o : Oper} {a : Act} {w : World} {Q : Exit → Act → World → Prop}
theorem wpList_append_any2 (hgd : o.guard = none) (s x : Operand) (t : TypeId) (ho : o.op = .call { callee := .builtin .append, args := #[s, x], argTypes := #[t, t] })
    (B : Nat) (e : TypeId) (z : Value) (size bytes : Nat) (ht : P.underlying t = some (.slice e)) (hi : (P.info? e).map (fun i => (i.zero, i.size, i.bytes)) = some (some z, size, bytes)) (hzs : z.cells.size = size) (hsz : 0 < size)
    (v : Value) (n : Nat) (xs : List Value) (hs : a.eval s = v) (hown : Owns w B size v n xs)
    (ao : Option Addr) (m c : Nat) (news : List Value) (hx : a.eval x = .slice ao m c) (hl : news.length = m * size) (hnone : ao = none → m = 0 ∧ c = 0) (hnews : ∀ ad, ao = some ad → ∀ j u, news[j]? = some u → w.cell? (ad.add j) = some u) (h1 : ∀ u ∈ news, u.oneCell' = true)
    (h63 : n + m ≤ maxLen) (hbytes : (n + m) * bytes ≤ 140737488355328) (hB : B ≤ w.heap.size)
    (h : ∀ v' w', Owns w' B size v' (n + m) (xs ++ news) → w.grownBy w' v.ownBlock → (v'.ownBlock = v.ownBlock ∨ ∀ k, v'.ownBlock = some k → w.heap.size ≤ k) → wpList P ops Q rest (a.put o.dst v') w') : wpList P ops Q (o :: rest) a w := by
  refine wpList_plain hgd fun K hK => ?_
  obtain ⟨i, hi1, hi2, hi3, hi4⟩ := info_parts hi
  obtain ⟨v', w', hr, h2, h3, h4⟩ := run_append_any2 (P := P) w B t o.type e i z size bytes ht hi1 hi2 hi3 hi4 hzs hsz v n xs hown ao m c news hl hnone hnews h1 h63 hbytes hB
  unfold Oper.wp execOp
  simp only [ho, resolve, invoke, builtin, Sem.run_bind, Sem.run_pure, Result.andThen_ok, List.map_toArray, List.map_cons, List.map_nil, hs, hx, hr]
  exact hK _ _ (h v' w' h2 h3 h4)
theorem wpList_append_new2 (hgd : o.guard = none) (s x : Operand) (t : TypeId) (ho : o.op = .call { callee := .builtin .append, args := #[s, x], argTypes := #[t, t] })
    (w0 : World) (cs : Array Value) (T : TypeId) (hw : w = w0.alloc (.cells cs T))
    (B : Nat) (e : TypeId) (z : Value) (size bytes : Nat) (ht : P.underlying t = some (.slice e)) (hi : (P.info? e).map (fun i => (i.zero, i.size, i.bytes)) = some (some z, size, bytes)) (hzs : z.cells.size = size) (hsz : 0 < size)
    (v : Value) (n : Nat) (xs : List Value) (hs : a.eval s = v) (hown : Owns w0 B size v n xs)
    (hx : a.eval x = .slice (some ⟨w0.heap.size, 0, none⟩) 1 1) (hcs : cs.size = size) (h1 : ∀ u ∈ cs.toList, u.oneCell' = true)
    (h63 : n + 1 ≤ maxLen) (hbytes : (n + 1) * bytes ≤ 140737488355328) (hB : B ≤ w0.heap.size)
    (h : ∀ v' w', Owns w' B size v' (n + 1) (xs ++ cs.toList) → w0.grownBy w' v.ownBlock → Below B w0 w' → (v'.ownBlock = v.ownBlock ∨ ∀ k, v'.ownBlock = some k → w0.heap.size ≤ k) → wpList P ops Q rest (a.put o.dst v') w') : wpList P ops Q (o :: rest) a w := by
  subst hw
  have hb1 : Below w0.heap.size w0 (w0.alloc (.cells cs T)) := below1 _ _
  have hown1 := hown.below hb1
  refine wpList_append_any2 hgd s x t ho B e z size bytes ht hi hzs hsz v n xs hs hown1 (some ⟨w0.heap.size, 0, none⟩) 1 1 cs.toList hx (by simpa using hcs) (fun h => by cases h) (fun ad had j u hu => ?_) h1 h63 hbytes (Nat.le_trans hB hb1.size) (fun v' w' k1 k2 k3 => h v' w' k1 ?_ ?_ (k3.imp id (fun h k hk => Nat.le_trans hb1.size (h k hk))))
  · obtain rfl : ad = ⟨w0.heap.size, 0, none⟩ := by simpa using had.symm
    have hadd : (⟨w0.heap.size, 0, none⟩ : Addr).add j = ⟨w0.heap.size, j, none⟩ := by unfold Addr.add; split <;> simp_all
    rw [hadd]
    exact (cell_of_row _ w0.heap.size j _ T (0, 0) (heap_alloc_at _ _ _ rfl)).trans (by simpa using hu)
  · exact grown_trans (World.grownBy_alloc w0 _ _) k2
  · exact (hb1.mono hB).grown k2 (Nat.le_trans hB hb1.size) (fun k hk => (hown.lt k hk).1)
end
end Go.Proofs.Ytapgcbjlgekpeaa

/- A world in which some blocks of the call's own stand: all that a walk carries from call to call. -/
namespace Go.Proofs.Ytapgcbjlgekpeaa
open Go.ChangeShapes Go.WideShapes Go.ChangeAt Go.RowKit

/-- w' is w below w's size; the blocks of the list, from w's size on, hold what it says. -/
structure Mem (w w' : World) (bs : List (Nat × Obj)) : Prop where
  below : Below w.heap.size w w'
  has : ∀ (i b : Nat) (o : Obj), bs[i]? = some (b, o) → w'.heap[b]? = some o
  apart : ∀ (i j b : Nat) (o o' : Obj), bs[i]? = some (b, o) → bs[j]? = some (b, o') → i = j
  own : ∀ (i b : Nat) (o : Obj), bs[i]? = some (b, o) → w.heap.size ≤ b

section
variable {w w' w'' : World} {bs : List (Nat × Obj)}
theorem Mem.start (w : World) : Mem w w [] := ⟨Below.refl _ _, fun _ _ _ h => by simp at h, fun _ _ _ _ _ h => by simp at h, fun _ _ _ h => by simp at h⟩
theorem Mem.call (h : Mem w w' bs) (hb : Below w'.heap.size w' w'') : Mem w w'' bs :=
  ⟨h.below.trans (hb.mono h.below.size), fun i b o hi => (hb.block _ (lt_of_heap (h.has i b o hi))).trans (h.has i b o hi), h.apart, h.own⟩
theorem Mem.lt (h : Mem w w' bs) {i b : Nat} {o : Obj} (hi : bs[i]? = some (b, o)) : b < w'.heap.size := lt_of_heap (h.has i b o hi)
theorem Mem.alloc (h : Mem w w' bs) (o : Obj) : Mem w (w'.alloc o) (bs ++ [(w'.heap.size, o)]) := by
  refine ⟨h.below.alloc h.below.size o, ?_, ?_, ?_⟩
  · intro i b o' hi
    rw [List.getElem?_append] at hi
    split at hi
    · exact (heap_alloc_past _ _ _ (h.lt hi)).trans (h.has _ _ _ hi)
    · obtain ⟨h1, h2⟩ : b = w'.heap.size ∧ o' = o := by
        cases hk : i - bs.length with
        | zero => rw [hk] at hi; simp at hi; exact ⟨hi.1.symm, hi.2.symm⟩
        | succ k => rw [hk] at hi; simp at hi
      subst h1 h2
      exact heap_alloc_at _ _ _ rfl
  · intro i j b o1 o2 hi hj
    rw [List.getElem?_append] at hi hj
    split at hi <;> split at hj
    · exact h.apart _ _ _ _ _ hi hj
    · exfalso
      have := h.lt hi
      cases hk : j - bs.length with
      | zero => rw [hk] at hj; simp at hj; omega
      | succ k => rw [hk] at hj; simp at hj
    · exfalso
      have := h.lt hj
      cases hk : i - bs.length with
      | zero => rw [hk] at hi; simp at hi; omega
      | succ k => rw [hk] at hi; simp at hi
    · cases hk : i - bs.length with
      | zero => cases hl : j - bs.length with
        | zero => omega
        | succ k => rw [hl] at hj; simp at hj
      | succ k => rw [hk] at hi; simp at hi
  · intro i b o' hi
    rw [List.getElem?_append] at hi
    split at hi
    · exact h.own _ _ _ hi
    · cases hk : i - bs.length with
      | zero => rw [hk] at hi; simp at hi; have := h.below.size; omega
      | succ k => rw [hk] at hi; simp at hi
theorem Mem.allocAs (h : Mem w w' bs) (n : Nat) (o : Obj) (hn : w'.heap.size = n) : Mem w (w'.alloc o) (bs ++ [(n, o)]) := by subst hn; exact h.alloc o
theorem Mem.heap (h : Mem w w' bs) (i : Nat) {b : Nat} {o : Obj} (hi : bs[i]? = some (b, o)) : w'.heap[b]? = some o := h.has i b o hi
theorem Mem.cell (h : Mem w w' bs) (i j : Nat) {b : Nat} {cs : Array Value} {t : TypeId} {fr : Nat × Nat} {v : Value} (hi : bs[i]? = some (b, .cells cs t fr)) (hv : cs[j]? = some v) : w'.cell? ⟨b, j, none⟩ = some v := by
  rw [cell_of_row _ _ _ _ _ _ (h.has _ _ _ hi)]; exact hv
theorem Mem.free (h : Mem w w' bs) (i j : Nat) {b : Nat} {cs : Array Value} {t : TypeId} (hi : bs[i]? = some (b, .cells cs t (0, 0))) : w'.frozen? ⟨b, j, none⟩ = false := frozen_of_row _ _ _ _ _ (h.has _ _ _ hi)
theorem Mem.turn (h : Mem w w' bs) (i : Nat) {b : Nat} {o o' : Obj} (hi : bs[i]? = some (b, o)) (hB : Below w.heap.size w w'') (h1 : w''.heap[b]? = some o') (h2 : ∀ k, k ≠ b → w''.heap[k]? = w'.heap[k]?) : Mem w w'' (bs.set i (b, o')) := by
  have hil : i < bs.length := (List.getElem?_eq_some_iff.1 hi).1
  have key : ∀ (k c : Nat) (x : Obj), (bs.set i (b, o'))[k]? = some (c, x) → (k = i ∧ c = b ∧ x = o') ∨ (k ≠ i ∧ bs[k]? = some (c, x)) := by
    intro k c x hk
    rw [List.getElem?_set] at hk
    split at hk
    · rename_i e
      simp at hk
      exact .inl ⟨e.symm, hk.1.symm, hk.2.symm⟩
    · rename_i e
      exact .inr ⟨fun h => e h.symm, hk⟩
  refine ⟨hB, ?_, ?_, ?_⟩
  · intro k c x hk
    rcases key k c x hk with ⟨_, rfl, rfl⟩ | ⟨hne, hk2⟩
    · exact h1
    · rw [h2 c (fun e => hne (by subst e; exact h.apart _ _ _ _ _ hk2 hi))]
      exact h.has _ _ _ hk2
  · intro k l c x y hk hl
    rcases key k c x hk with ⟨e1, e2, _⟩ | ⟨hne, hk2⟩ <;> rcases key l c y hl with ⟨h3, h4, _⟩ | ⟨hne2, hl2⟩
    · rw [e1, h3]
    · rw [e1]; rw [e2] at hl2; exact h.apart _ _ _ _ _ hi hl2
    · rw [h3]; rw [h4] at hk2; exact h.apart _ _ _ _ _ hk2 hi
    · exact h.apart _ _ _ _ _ hk2 hl2
  · intro k c x hk
    rcases key k c x hk with ⟨_, rfl, _⟩ | ⟨_, hk⟩
    · exact h.own _ _ _ hi
    · exact h.own _ _ _ hk
theorem Mem.setRow (h : Mem w w' bs) (i : Nat) {b : Nat} {old cs : Array Value} {t : TypeId} {fr : Nat × Nat} (hi : bs[i]? = some (b, .cells old t fr)) : Mem w (w'.setRow b cs) (bs.set i (b, .cells cs t fr)) :=
  h.turn i hi (below_setRow h.below (h.own _ _ _ hi) cs) (setRow_heap _ _ _ _ _ _ (h.has _ _ _ hi)) (fun k hk => setRow_other w' b k cs hk)
theorem Mem.setCell (h : Mem w w' bs) (i j : Nat) (v : Value) {b : Nat} {cs : Array Value} {t : TypeId} (hi : bs[i]? = some (b, .cells cs t (0, 0))) : Mem w (w'.setCell ⟨b, j, none⟩ v) (bs.set i (b, .cells (cs.setIfInBounds j v) t (0, 0))) :=
  h.turn i hi (h.below.setCell (h.own _ _ _ hi) v) (heap_setCell_same _ _ _ _ _ _ (h.has _ _ _ hi)) (fun k hk => Below.heap_setCell _ _ _ _ (by simpa using hk))
theorem Mem.drewN (h : Mem w w' bs) (n : Nat) : Mem w (w'.drewN n) bs := ⟨below_drewN h.below n, h.has, h.apart, h.own⟩
theorem Mem.init {cs : List (Nat × Obj)} (h : Mem w w' (bs ++ cs)) : Mem w w' bs := by
  have hh : ∀ (i b : Nat) (o : Obj), bs[i]? = some (b, o) → (bs ++ cs)[i]? = some (b, o) := fun i b o hi => by
    rw [List.getElem?_append_left (List.getElem?_eq_some_iff.1 hi).1]; exact hi
  exact ⟨h.below, fun i b o hi => h.has i b o (hh _ _ _ hi), fun i j b o o' hi hj => h.apart i j b o o' (hh _ _ _ hi) (hh _ _ _ hj), fun i b o hi => h.own i b o (hh _ _ _ hi)⟩
/-- Fewer blocks told. -/
theorem Mem.drop (h : Mem w w' bs) : Mem w w' [] := ⟨h.below, fun _ _ _ h => by simp at h, fun _ _ _ _ _ h => by simp at h, fun _ _ _ h => by simp at h⟩
end
end Go.Proofs.Ytapgcbjlgekpeaa

/- What a call turned: no block but those that S names, and new ones. Rings as memory. -/
namespace Go.Proofs.Ytapgcbjlgekpeaa
open Go.ChangeShapes Go.WideShapes Go.ChangeAt Go.RowKit

structure Turned (S : Nat → Prop) (w w' : World) : Prop where
  os : w'.os = w.os
  tape : w'.tape = w.tape
  output : w'.output = w.output
  size : w.heap.size ≤ w'.heap.size
  block : ∀ k, k < w.heap.size → ¬ S k → w'.heap[k]? = w.heap[k]?
section
variable {S S' : Nat → Prop} {w w' w'' : World}
theorem Turned.refl : Turned S w w := ⟨rfl, rfl, rfl, Nat.le_refl _, fun _ _ _ => rfl⟩
theorem Turned.trans (h : Turned S w w') (k : Turned S' w' w'') (hs : ∀ k, k < w.heap.size → S' k → S k) : Turned S w w'' :=
  ⟨k.os.trans h.os, k.tape.trans h.tape, k.output.trans h.output, Nat.le_trans h.size k.size, fun j hj hn => (k.block j (Nat.lt_of_lt_of_le hj h.size) (fun h' => hn (hs j hj h'))).trans (h.block j hj hn)⟩
theorem Turned.of_below (h : Below w.heap.size w w') : Turned S w w' := ⟨h.os, h.tape, h.output, h.size, fun k hk _ => h.block k hk⟩
theorem Turned.call (h : Turned S w w') (hb : Below w'.heap.size w' w'') : Turned S w w'' := h.trans (Turned.of_below (S := fun _ => False) hb) (fun _ _ h => h.elim)
theorem Turned.alloc (h : Turned S w w') (o : Obj) : Turned S w (w'.alloc o) := h.call (below1 _ _)
theorem Turned.drewN (h : Turned S w w') (n : Nat) : Turned S w (w'.drewN n) := ⟨h.os, h.tape, h.output, h.size, h.block⟩
theorem Turned.setCell (h : Turned S w w') {b j : Nat} (u : Value) (hb : b < w.heap.size → S b) : Turned S w (w'.setCell ⟨b, j, none⟩ u) :=
  ⟨h.os, h.tape, h.output, Nat.le_trans h.size (by simp [World.setCell]), fun k hk hn => (Below.heap_setCell _ _ _ _ (by intro e; subst e; exact hn (hb hk))).trans (h.block k hk hn)⟩
theorem Turned.grown (h : Turned S w w') {row : Option Nat} (hg : w'.grownBy w'' row) (hr : ∀ k, row = some k → k < w.heap.size → S k) : Turned S w w'' :=
  ⟨hg.os.trans h.os, hg.tape.trans h.tape, hg.output.trans h.output, Nat.le_trans h.size hg.size, fun k hk hn => (hg.block k (Nat.lt_of_lt_of_le hk h.size) (fun e => hn (hr k e.symm hk))).trans (h.block k hk hn)⟩
theorem Turned.below {B : Nat} (h : Turned S w w') (hS : ∀ k, S k → B ≤ k) (hB : B ≤ w.heap.size) : Below B w w' :=
  ⟨h.os, h.tape, h.output, h.size, fun k hk => h.block k (Nat.lt_of_lt_of_le hk hB) (fun h' => by have := hS k h'; omega)⟩
theorem Turned.mono (h : Turned S w w') (hS : ∀ k, k < w.heap.size → S k → S' k) : Turned S' w w' := ⟨h.os, h.tape, h.output, h.size, fun k hk hn => h.block k hk (fun h' => hn (hS k hk h'))⟩
theorem stab_turned : Stab (fun w' => Turned S w w') := fun _ _ h hb => h.call hb
end
theorem stab_owns {B sz n : Nat} {v : Value} {xs : List Value} : Stab (fun w' => Owns w' B sz v n xs) := fun _ _ h hb => h.below hb

/-- One element, of one cell, put anew. -/
theorem Owns.put {w : World} {B n g cap : Nat} {xs : List Value} {p : Option Addr} (h : Owns w B 1 (.slice p n cap) n xs) (hg : (Value.slice p n cap).ownBlock = some g) (j : Nat) (u : Value) (hj : j < n) :
    Owns (w.setCell ⟨g, j, none⟩ u) B 1 (.slice p n cap) n (xs.set j u) := by
  obtain ⟨hl, h⟩ := h
  refine ⟨by rw [List.length_set]; exact hl, ?_⟩
  rcases h with ⟨h1, h2⟩ | ⟨g', cap', h1, h2, h3, h4, h5, h6⟩
  · omega
  · refine .inr ⟨g', cap', h1, h2, by simpa [World.setCell] using h3, h4, ?_, ?_⟩
    · have eg : g = g' := by
        simp only [Value.slice.injEq] at h1
        obtain ⟨rfl, _, _⟩ := h1
        simpa [Value.ownBlock] using hg.symm
      subst eg
      intro k x hk
      by_cases hkj : k = j
      · subst hkj
        have hx : x = u := by
          rw [List.getElem?_set_self (by omega)] at hk
          exact (Option.some.inj hk).symm
        subst hx
        obtain ⟨y, hy⟩ := Option.isSome_iff_exists.1 (h6 k (by simp only [Value.slice.injEq] at h1; obtain ⟨_, _, rfl⟩ := h1; omega)).1
        exact World.cell?_setCell_same _ _ _ hy
      · rw [List.getElem?_set_ne (by omega)] at hk
        rw [World.cell?_setCell_other _ _ _ _ (by intro e; injection e with e1 e2; omega)]
        exact h5 k x hk
    · intro k hk
      obtain ⟨a, b⟩ := h6 k hk
      refine ⟨?_, by rw [World.frozen?_setCell]; exact b⟩
      by_cases hx : (⟨g', k, none⟩ : Addr) = ⟨g, j, none⟩
      · obtain ⟨y, hy⟩ := Option.isSome_iff_exists.1 a
        rw [hx] at hy ⊢
        rw [World.cell?_setCell_same _ _ _ hy]
        rfl
      · rw [World.cell?_setCell_other _ _ _ _ (fun e => hx e.symm)]; exact a
theorem Owns.setOther {w : World} {B sz n : Nat} {v : Value} {xs : List Value} (h : Owns w B sz v n xs) {b j : Nat} (u : Value) (hb : v.ownBlock ≠ some b) : Owns (w.setCell ⟨b, j, none⟩ u) B sz v n xs :=
  h.same (by simp [World.setCell]) (fun k hk => Below.heap_setCell _ _ _ _ (by intro e; subst e; exact hb hk))

/-- A ring: its block, and the row of its things. -/
structure RingAt (TR : TypeId) (sz : Nat) (w : World) (B r : Nat) (v : Value) (room first n : Nat) (xs : List Value) : Prop where
  low : B ≤ r
  row : w.heap[r]? = some (.cells #[.int .i64 room, .int .i64 first, v] TR (0, 0))
  owns : Owns w B sz v n xs
  apart : v.ownBlock ≠ some r
  void : n = 0 → v = .slice none 0 0
section
variable {TR : TypeId} {sz : Nat} {w w' : World} {B r : Nat} {v : Value} {room first n : Nat} {xs : List Value}
theorem RingAt.lt (h : RingAt TR sz w B r v room first n xs) : r < w.heap.size := lt_of_heap h.row
theorem RingAt.below (h : RingAt TR sz w B r v room first n xs) (hb : Below w.heap.size w w') : RingAt TR sz w' B r v room first n xs :=
  ⟨h.low, (hb.block _ h.lt).trans h.row, h.owns.below hb, h.apart, h.void⟩
theorem RingAt.same (h : RingAt TR sz w B r v room first n xs) (hs : w.heap.size ≤ w'.heap.size) (h1 : w'.heap[r]? = w.heap[r]?) (h2 : ∀ k, v.ownBlock = some k → w'.heap[k]? = w.heap[k]?) : RingAt TR sz w' B r v room first n xs :=
  ⟨h.low, h1.trans h.row, h.owns.same hs h2, h.apart, h.void⟩
theorem RingAt.turned {S : Nat → Prop} (h : RingAt TR sz w B r v room first n xs) (hb : Turned S w w') (h1 : ¬ S r) (h2 : ∀ k, v.ownBlock = some k → ¬ S k) : RingAt TR sz w' B r v room first n xs :=
  h.same hb.size (hb.block _ h.lt h1) (fun k hk => hb.block _ (h.owns.lt k hk).2 (h2 k hk))
theorem stab_ring : Stab (fun w' => RingAt TR sz w' B r v room first n xs) := fun _ _ h hb => h.below hb
theorem RingAt.cell0 (h : RingAt TR sz w B r v room first n xs) : w.cell? ⟨r, 0, none⟩ = some (.int .i64 room) := by rw [cell_of_row _ _ _ _ _ _ h.row]; rfl
theorem RingAt.cell1 (h : RingAt TR sz w B r v room first n xs) : w.cell? ⟨r, 1, none⟩ = some (.int .i64 first) := by rw [cell_of_row _ _ _ _ _ _ h.row]; rfl
theorem RingAt.cell2 (h : RingAt TR sz w B r v room first n xs) : w.cell? ⟨r, 2, none⟩ = some v := by rw [cell_of_row _ _ _ _ _ _ h.row]; rfl
theorem RingAt.free (h : RingAt TR sz w B r v room first n xs) (j : Nat) : w.frozen? ⟨r, j, none⟩ = false := frozen_of_row _ _ _ _ _ h.row
theorem RingAt.slice (h : RingAt TR sz w B r v room first n xs) (hn : 0 < n) : ∃ g cap, v = .slice (some ⟨g, 0, none⟩) n cap ∧ g ≠ r ∧ B ≤ g ∧ g < w.heap.size ∧ n ≤ cap := by
  obtain ⟨_, h1⟩ := h.owns
  rcases h1 with ⟨_, h2⟩ | ⟨g, cap, h1, h2, h3, h4, _⟩
  · omega
  · exact ⟨g, cap, h1, fun e => h.apart (by rw [h1, e]; rfl), h2, h3, h4⟩
end
end Go.Proofs.Ytapgcbjlgekpeaa

/- Decisions as data; what is told of lists of them (layers 14, 15). -/
namespace Go.Proofs.Ytapgcbjlgekpeaa
open Go.ChangeShapes Go.WideShapes Go.ChangeAt Go.RowKit

/-- A decision: tick, load, want, replicas, why. -/
structure Adv where
  tick : Int
  load : Int
  want : Int
  repl : Int
  why : Int
deriving Inhabited, DecidableEq

def Adv.get (a : Adv) : Nat → Int
  | 0 => a.tick
  | 1 => a.load
  | 2 => a.want
  | 3 => a.repl
  | _ => a.why
def Adv.In (a : Adv) : Prop := I64 a.tick ∧ I64 a.load ∧ I64 a.want ∧ I64 a.repl ∧ I64 a.why

/-- A slice of decisions. -/
def Advs (w : World) (p : Option Addr) (l : List Adv) : Prop := Sl w p l.length 5 (fun j => .int .i64 ((l[j / 5]?.getD default).get (j % 5)))

theorem Advs.below {w w' : World} {p : Option Addr} {l : List Adv} (h : Advs w p l) (hb : Below w.heap.size w w') : Advs w' p l := Sl.below h hb

theorem Advs.cells {w : World} {p : Option Addr} {l : List Adv} (h : Advs w p l) (k : Nat) (hk : k < l.length) :
    ∃ b off, p = some ⟨b, off, none⟩ ∧ b < w.heap.size ∧ w.cell? ⟨b, off + k * 5, none⟩ = some (.int .i64 (l[k]?.getD default).tick) ∧ w.cell? ⟨b, off + k * 5 + 1, none⟩ = some (.int .i64 (l[k]?.getD default).load) ∧
      w.cell? ⟨b, off + k * 5 + 2, none⟩ = some (.int .i64 (l[k]?.getD default).want) ∧ w.cell? ⟨b, off + k * 5 + 3, none⟩ = some (.int .i64 (l[k]?.getD default).repl) ∧ w.cell? ⟨b, off + k * 5 + 4, none⟩ = some (.int .i64 (l[k]?.getD default).why) := by
  obtain ⟨b, off, hp, hb, hc⟩ := Sl.pos h (by omega)
  have key : ∀ i, i < 5 → w.cell? ⟨b, off + k * 5 + i, none⟩ = some (.int .i64 ((l[k]?.getD default).get i)) := by
    intro i hi
    have := hc (k * 5 + i) (by omega)
    rw [← Nat.add_assoc, show (k * 5 + i) / 5 = k by omega, show (k * 5 + i) % 5 = i by omega] at this
    exact this
  exact ⟨b, off, hp, hb, key 0 (by omega), key 1 (by omega), key 2 (by omega), key 3 (by omega), key 4 (by omega)⟩

theorem foldl_next {α β : Type} (f : β → α → β) (b : β) (d : α) (l : List α) (k : Nat) (h : k < l.length) : (l.take (k + 1)).foldl f b = f ((l.take k).foldl f b) (l[k]?.getD d) := by
  rw [List.take_succ_eq_append_getElem h, List.foldl_append, List.getElem?_eq_getElem h]
  rfl

/-- The most that was wanted of those in a time. -/
def Adv.hiStep (lo hi : Int) (s : Int × Bool) (a : Adv) : Int × Bool :=
  if lo < a.tick ∧ a.tick ≤ hi then (if s.2 = true ∧ a.want ≤ s.1 then s else (a.want, true)) else s
def Adv.highest (l : List Adv) (lo hi : Int) : Int × Bool := l.foldl (Adv.hiStep lo hi) (0, false)

theorem Adv.hi_out {lo hi : Int} {s : Int × Bool} {a : Adv} (h : a.tick ≤ lo ∨ hi < a.tick) : Adv.hiStep lo hi s a = s := by
  unfold Adv.hiStep
  rw [if_neg (by omega)]
theorem Adv.hi_keep {lo hi : Int} {s : Int × Bool} {a : Adv} (h : lo < a.tick) (h2 : a.tick ≤ hi) (h3 : s.2 = true) (h4 : a.want ≤ s.1) : Adv.hiStep lo hi s a = s := by
  unfold Adv.hiStep
  rw [if_pos ⟨h, h2⟩, if_pos ⟨h3, h4⟩]
theorem Adv.hi_new {lo hi : Int} {s : Int × Bool} {a : Adv} (h : lo < a.tick) (h2 : a.tick ≤ hi) (h3 : s.2 = false ∨ s.1 < a.want) : Adv.hiStep lo hi s a = (a.want, true) := by
  unfold Adv.hiStep
  rw [if_pos ⟨h, h2⟩, if_neg]
  rintro ⟨x, y⟩
  rcases h3 with h3 | h3
  · rw [h3] at x; cases x
  · omega

end Go.Proofs.Ytapgcbjlgekpeaa

/- What stays when others' blocks are turned. -/
namespace Go.Proofs.Ytapgcbjlgekpeaa
open Go.ChangeShapes Go.WideShapes Go.ChangeAt Go.RowKit
theorem stab_mem {w : World} {bs : List (Nat × Obj)} : Stab (fun w' => Mem w w' bs) := fun _ _ h hb => h.call hb
theorem stab_advs {q : Option Addr} {l : List Adv} : Stab (fun w' => Advs w' q l) := fun _ _ h hb => h.below hb
end Go.Proofs.Ytapgcbjlgekpeaa

/- Equality of structs, as one step; equality of rows of bools. -/
/- Equality of structs, as one step; equality of rows of bools. -/
namespace Go.Proofs.Ytapgcbjlgekpeaa
open Go.ChangeShapes Go.WideShapes Go.ChangeAt Go.RowKit

section
variable {P : Program} {ops : Array Oper} {rest : List Oper} {o : Oper} {a : Act} {w : World} {Q : Exit → Act → World → Prop}

theorem wp_eql_agg {K : Act → World → Prop} (t yt : TypeId) (x y : Operand) (ho : o.op = .binOp .eql t x y yt) (xs ys : Array Value) (hx : a.eval x = .agg xs) (hy : a.eval y = .agg ys)
    (b : Bool) (hm : P.eqGuardType P.depth t = false) (hb : (Op.equalIn 10000 t (.agg xs) (.agg ys)).run P w = .ok b w)
    (h : K (a.put o.dst (.bool b)) w) : o.wp P a w K Q := by
  unfold Oper.wp execOp
  simp only [ho, hx, hy, Sem.run_bind, run_eqGuard_agg w _ _ _ _ _ _ hm, Result.andThen_ok, run_eql_struct, hb]
  exact h

theorem wpList_eql_agg (hgd : o.guard = none) (t yt : TypeId) (x y : Operand) (ho : o.op = .binOp .eql t x y yt) (xs ys : Array Value) (hx : a.eval x = .agg xs) (hy : a.eval y = .agg ys)
    (b : Bool) (hm : P.eqGuardType P.depth t = false) (hb : (Op.equalIn 10000 t (.agg xs) (.agg ys)).run P w = .ok b w)
    (h : wpList P ops Q rest (a.put o.dst (.bool b)) w) : wpList P ops Q (o :: rest) a w :=
  wpList_plain hgd fun _ hK => wp_eql_agg t yt x y ho xs ys hx hy b hm hb (hK _ _ h)

theorem wp_neq_agg {K : Act → World → Prop} (t yt : TypeId) (x y : Operand) (ho : o.op = .binOp .neq t x y yt) (xs ys : Array Value) (hx : a.eval x = .agg xs) (hy : a.eval y = .agg ys)
    (b : Bool) (hm : P.eqGuardType P.depth t = false) (hb : (Op.equalIn 10000 t (.agg xs) (.agg ys)).run P w = .ok b w)
    (h : K (a.put o.dst (.bool (!b))) w) : o.wp P a w K Q := by
  unfold Oper.wp execOp
  simp only [ho, hx, hy, Sem.run_bind, run_eqGuard_agg w _ _ _ _ _ _ hm, Result.andThen_ok, run_neq_struct, hb]
  exact h

theorem wpList_neq_agg (hgd : o.guard = none) (t yt : TypeId) (x y : Operand) (ho : o.op = .binOp .neq t x y yt) (xs ys : Array Value) (hx : a.eval x = .agg xs) (hy : a.eval y = .agg ys)
    (b : Bool) (hm : P.eqGuardType P.depth t = false) (hb : (Op.equalIn 10000 t (.agg xs) (.agg ys)).run P w = .ok b w)
    (h : wpList P ops Q rest (a.put o.dst (.bool (!b))) w) : wpList P ops Q (o :: rest) a w :=
  wpList_plain hgd fun _ hK => wp_neq_agg t yt x y ho xs ys hx hy b hm hb (hK _ _ h)

/-- A row of bools is equal to itself. -/
theorem run_equalIn_bools (d : Nat) (t e : TypeId) (n : Nat) (ht : P.underlying t = some (.array n e)) (he : P.underlying e = some .bool) (hsz : ∀ w, (sizeOf e).run P w = .ok 1 w)
    (f : Nat → Bool) (w : World) :
    (Op.equalIn (d + 2) t (.agg (Bits.row n f)) (.agg (Bits.row n f))).run P w = .ok true w := by
  rw [Op.equalIn]
  simp only [Sem.run_bind, run_underlying ht, Result.andThen_ok, hsz, Std.Legacy.Range.forIn_eq_forIn_range', Std.Legacy.Range.size, Nat.sub_zero, Nat.add_sub_cancel, Nat.div_one]
  have hl : ∀ i ∈ List.range' 0 n 1, i < n := fun i hi => by simpa using (List.mem_range'_1.1 hi).2
  generalize List.range' 0 n 1 = l at hl ⊢
  induction l with
  | nil => simp
  | cons i l ih =>
    have hi : i < n := hl i (by simp)
    have px : (part e (Bits.row n f) (i * 1)).run P w = .ok (.bool (f i)) w := by
      simp [part, isAgg, run_underlying he, Bits.row_get n f i hi]
    have pe : (Op.equalIn (d + 1) e (.bool (f i)) (.bool (f i))).run P w = .ok true w := by
      rw [run_equalIn_bool' w d e _ _ he]
      simp
    simp only [List.forIn_cons, Sem.run_bind, px, pe, Result.andThen_ok, Bool.not_true, Bool.false_eq_true, if_false, Sem.run_pure]
    exact ih fun j hj => hl j (by simp [hj])
end

/-- The places of a struct's fields. -/
theorem fields_one' {L : List Field} {u : TypeId} {k : Nat} (h : (L.map fun f => (f.type, f.offset, f.name == "_")) = [(u, k, false)]) : ∃ f, L = [f] ∧ f.type = u ∧ f.offset = k ∧ f.name ≠ "_" := by
  cases L with
  | nil => simp at h
  | cons f L =>
    cases L with
    | nil =>
      simp only [List.map_cons, List.map_nil, List.cons.injEq, Prod.mk.injEq, and_true] at h
      exact ⟨f, rfl, h.1, h.2.1, fun e => by rw [e] at h; exact absurd h.2.2 (by decide)⟩
    | cons g L => simp at h

theorem eqFields_one {P : Program} {w : World} {d : Nat} {xs ys : Array Value} {f : Field} {u : TypeId} {k : Nat} {x y : Value} {b : Bool} (h1 : f.type = u) (h2 : f.offset = k) (h3 : f.name ≠ "_")
    (hx : (part u xs k).run P w = .ok x w) (hy : (part u ys k).run P w = .ok y w) (he : (Op.equalIn d u x y).run P w = .ok b w) : (Op.eqFields d xs ys [f]).run P w = .ok b w := by
  subst h1 h2
  cases b <;> simp [Op.eqFields, h3, hx, hy, he]
end Go.Proofs.Ytapgcbjlgekpeaa

/- Decisions as values; a slice that came in, as decisions. -/
namespace Go.Proofs.Ytapgcbjlgekpeaa
open Go.ChangeShapes Go.WideShapes Go.ChangeAt Go.RowKit

theorem advInfo : (Try.prog.info? 27).map (fun i => (i.zero, i.size, i.bytes)) = some (some (.agg #[.int .i64 0, .int .i64 0, .int .i64 0, .int .i64 0, .int .i64 0]), 5, 40) := by kernel_rfl

/-- Decisions as values. -/
def advVals : List Adv → List Value
  | [] => []
  | a :: l => .int .i64 a.tick :: .int .i64 a.load :: .int .i64 a.want :: .int .i64 a.repl :: .int .i64 a.why :: advVals l
theorem advVals_append : ∀ l m : List Adv, advVals (l ++ m) = advVals l ++ advVals m
  | [], m => rfl
  | a :: l, m => by simp [advVals, advVals_append l m]
theorem advVals_len : ∀ l : List Adv, (advVals l).length = l.length * 5
  | [] => rfl
  | a :: l => by simp [advVals, advVals_len l]; omega
theorem advVals_get : ∀ (l : List Adv) (j : Nat), j < l.length * 5 → (advVals l)[j]? = some (.int .i64 ((l[j / 5]?.getD default).get (j % 5)))
  | [], j, h => by simp at h
  | a :: l, j, h => by
    match j, h with
    | 0, _ => rfl
    | 1, _ => rfl
    | 2, _ => rfl
    | 3, _ => rfl
    | 4, _ => rfl
    | j + 5, h =>
      have ih := advVals_get l j (by simp at h; omega)
      rw [show (j + 5) / 5 = j / 5 + 1 by omega, show (j + 5) % 5 = j % 5 by omega]
      simpa [advVals] using ih
theorem advs_of_owns {w : World} {B : Nat} {v : Value} {l : List Adv} (h : Owns w B 5 v l.length (advVals l)) : ∃ p cap, v = .slice p l.length cap ∧ l.length ≤ cap ∧ Advs w p l := by
  obtain ⟨p, cap, hv, hc, _, hs, _⟩ := h.sl
  refine ⟨p, cap, hv, hc, ?_⟩
  rcases hs with hs | ⟨b, off, hp, hb, hcell⟩
  · exact .inl hs
  · refine .inr ⟨b, off, hp, hb, fun j hj => ?_⟩
    rw [hcell j hj]
    show some ((advVals l)[j]?.getD undef) = some (.int .i64 ((l[j / 5]?.getD default).get (j % 5)))
    rw [advVals_get l j hj]
    rfl

theorem adv_of_list (l : List Int) (n : l.length = 5) (h : ∀ a ∈ l, (Lit.int .i64 a).wf = true) : ∃ a : Adv, l = [a.tick, a.load, a.want, a.repl, a.why] ∧ a.In := by
  match l, n with
  | [a, b, c, d, e], _ => exact ⟨⟨a, b, c, d, e⟩, rfl, I64.of_wf (h a (by simp)), I64.of_wf (h b (by simp)), I64.of_wf (h c (by simp)), I64.of_wf (h d (by simp)), I64.of_wf (h e (by simp))⟩

def Adv.row (a : Adv) : List Int := [a.tick, a.load, a.want, a.repl, a.why]
/-- A slice that came in, as decisions. -/
theorem advs_of_rows {w : World} {p : Option Addr} (l : List (List Int)) (h : Go.Proofs.Ytapgcbjlgekpeaa.Rows .i64 5 w p l) (hr : ∀ r ∈ l, r.length = 5 ∧ ∀ a ∈ r, (Lit.int .i64 a).wf = true) : ∃ m : List Adv, l = m.map Adv.row ∧ Advs w p m ∧ ∀ a ∈ m, a.In := by
  have key : ∀ r ∈ l, ∃ a : Adv, r = a.row ∧ a.In := by
    intro r hr'
    obtain ⟨h5, hw⟩ := hr r hr'
    match r, h5 with
    | [a, b, c, d, e], _ => exact ⟨⟨a, b, c, d, e⟩, rfl, I64.of_wf (hw a (by simp)), I64.of_wf (hw b (by simp)), I64.of_wf (hw c (by simp)), I64.of_wf (hw d (by simp)), I64.of_wf (hw e (by simp))⟩
  have all : ∃ m : List Adv, l = m.map Adv.row ∧ ∀ a ∈ m, a.In := by
    clear h hr
    induction l with
    | nil => exact ⟨[], rfl, by simp⟩
    | cons r l ih =>
      obtain ⟨m, hm, hi⟩ := ih (fun r hr => key r (by simp [hr]))
      obtain ⟨a, ha, hai⟩ := key r (by simp)
      exact ⟨a :: m, by rw [ha, hm]; rfl, by intro b hb; rcases List.mem_cons.1 hb with rfl | hb; exact hai; exact hi b hb⟩
  obtain ⟨m, rfl, hi⟩ := all
  refine ⟨m, rfl, ?_, hi⟩
  unfold Go.Proofs.Ytapgcbjlgekpeaa.Rows at h
  rw [List.length_map] at h
  rcases h with h | ⟨b, off, hp, hb, hc⟩
  · exact .inl h
  · refine .inr ⟨b, off, hp, hb, fun j hj => ?_⟩
    rw [hc j hj]
    have hq : j / 5 < m.length := by omega
    have hm : j % 5 < 5 := Nat.mod_lt _ (by omega)
    simp only [List.getElem?_map, List.getElem?_eq_getElem hq, Option.map_some, Option.getD_some]
    generalize j % 5 = i at hm
    generalize m[j / 5] = a
    match i, hm with
    | 0, _ => rfl
    | 1, _ => rfl
    | 2, _ => rfl
    | 3, _ => rfl
    | 4, _ => rfl
end Go.Proofs.Ytapgcbjlgekpeaa

/- == of structs, behind a guard; decisions and samples compared. -/
namespace Go.Proofs.Ytapgcbjlgekpeaa
open Go.ChangeShapes Go.WideShapes Go.ChangeAt Go.RowKit
section
variable {P : Program} {ops : Array Oper} {rest : List Oper} {o : Oper} {a : Act} {w : World} {Q : Exit → Act → World → Prop}
theorem wpList_eql_aggG (hw : Region.wanted o (yielded ops a.tmps) = true) (t yt : TypeId) (x y : Operand) (ho : o.op = .binOp .eql t x y yt) (xs ys : Array Value) (hx : a.eval x = .agg xs) (hy : a.eval y = .agg ys)
    (b : Bool) (hm : P.eqGuardType P.depth t = false) (hb : (Op.equalIn 10000 t (.agg xs) (.agg ys)).run P w = .ok b w)
    (h : wpList P ops Q rest (a.put o.dst (.bool b)) w) : wpList P ops Q (o :: rest) a w :=
  BigFrame.wpList_want hw fun _ hK => wp_eql_agg t yt x y ho xs ys hx hy b hm hb (hK _ _ h)
theorem wpList_neq_aggG (hw : Region.wanted o (yielded ops a.tmps) = true) (t yt : TypeId) (x y : Operand) (ho : o.op = .binOp .neq t x y yt) (xs ys : Array Value) (hx : a.eval x = .agg xs) (hy : a.eval y = .agg ys)
    (b : Bool) (hm : P.eqGuardType P.depth t = false) (hb : (Op.equalIn 10000 t (.agg xs) (.agg ys)).run P w = .ok b w)
    (h : wpList P ops Q rest (a.put o.dst (.bool (!b))) w) : wpList P ops Q (o :: rest) a w :=
  BigFrame.wpList_want hw fun _ hK => wp_neq_agg t yt x y ho xs ys hx hy b hm hb (hK _ _ h)
end
theorem adv_equal_yes (a : Adv) (w : World) : (Op.equalIn 10000 27 (.agg #[.int .i64 a.tick, .int .i64 a.load, .int .i64 a.want, .int .i64 a.repl, .int .i64 a.why]) (.agg #[.int .i64 a.tick, .int .i64 a.load, .int .i64 a.want, .int .i64 a.repl, .int .i64 a.why])).run Try.prog w = .ok true w := by
  simp [go_sem]
theorem adv_equal (a b : Adv) (w : World) : (Op.equalIn 10000 27 (.agg #[.int .i64 a.tick, .int .i64 a.load, .int .i64 a.want, .int .i64 a.repl, .int .i64 a.why]) (.agg #[.int .i64 b.tick, .int .i64 b.load, .int .i64 b.want, .int .i64 b.repl, .int .i64 b.why])).run Try.prog w = .ok (decide (a = b)) w := by
  by_cases h : a = b
  · subst h
    rw [decide_eq_true rfl]
    exact adv_equal_yes a w
  · rw [decide_eq_false h]
    obtain ⟨t, l, n, r, y⟩ := a
    obtain ⟨t', l', n', r', y'⟩ := b
    by_cases h1 : t = t'
    · by_cases h2 : l = l'
      · by_cases h3 : n = n'
        · by_cases h4 : r = r'
          · by_cases h5 : y = y'
            · exact absurd (by rw [h1, h2, h3, h4, h5]) h
            · simp [go_sem, h1, h2, h3, h4, h5]
          · simp [go_sem, h1, h2, h3, h4]
        · simp [go_sem, h1, h2, h3]
      · simp [go_sem, h1, h2]
    · simp [go_sem, h1]
end Go.Proofs.Ytapgcbjlgekpeaa
