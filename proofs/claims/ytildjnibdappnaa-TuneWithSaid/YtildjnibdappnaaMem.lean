/- Laws on blocks of memory, of whatever program. -/
import Derived.Test.YtildjnibdappnaaBase
import Derived.Lib.Hide
import Derived.Deep.QuietTactic
import Derived.BigQuiet
import Derived.BigFrame
namespace Go.Proofs.Ytildjnibdappnaa
open Go.ChangeShapes Go.WideShapes Go.ChangeAt Go.RowKit

theorem heap_alloc_at (w : World) (o : Obj) (n : Nat) (h : n = w.heap.size) : (w.alloc o).heap[n]? = some o := by subst h; show (w.heap.push o)[_]? = _; simp
theorem heap_alloc_past (w : World) (o : Obj) (n : Nat) (h : n < w.heap.size) : (w.alloc o).heap[n]? = w.heap[n]? := by
  show (w.heap.push o)[n]? = _
  rw [Array.getElem?_push, if_neg (by omega)]

theorem setRow_alloc_at (w : World) (c cs : Array Value) (t : TypeId) (n : Nat) (h : n = w.heap.size) : (w.alloc (.cells c t)).setRow n cs = w.alloc (.cells cs t) := by
  subst h
  unfold World.setRow World.alloc
  congr 1
  apply Array.ext_getElem?
  intro k
  simp only [Array.getElem?_modify, Array.getElem?_push]
  by_cases hk : k = w.heap.size
  · subst hk; simp
  · simp [hk, Ne.symm hk]
theorem setRow_alloc_past (w : World) (o : Obj) (cs : Array Value) (n : Nat) (h : n < w.heap.size) : (w.alloc o).setRow n cs = (w.setRow n cs).alloc o := by
  unfold World.setRow World.alloc
  congr 1
  apply Array.ext_getElem?
  intro k
  simp only [Array.getElem?_modify, Array.getElem?_push, Array.size_modify]
  by_cases hk : k = w.heap.size
  · subst hk
    simp [Nat.ne_of_lt h]
  · simp [hk]

theorem heap_1_0 (w : World) (o0 : Obj) : (w.alloc o0).heap[w.heap.size]? = some o0 := by
  rw [heap_alloc_at _ _ _ (by first | rfl | (simp [World.size_alloc]; try omega))]
theorem row_1_0 (w : World) (c cs : Array Value) (t : TypeId) : (w.alloc (.cells c t)).setRow w.heap.size cs = (w.alloc (.cells cs t)) := by
  rw [setRow_alloc_at _ _ _ _ _ (by first | rfl | (simp [World.size_alloc]; try omega))]
theorem heap_2_0 (w : World) (o0 o1 : Obj) : ((w.alloc o0).alloc o1).heap[w.heap.size]? = some o0 := by
  rw [heap_alloc_past _ _ _ (by first | rfl | (simp [World.size_alloc]; try omega)), heap_alloc_at _ _ _ (by first | rfl | (simp [World.size_alloc]; try omega))]
theorem row_2_0 (w : World) (o1 : Obj) (c cs : Array Value) (t : TypeId) : ((w.alloc (.cells c t)).alloc o1).setRow w.heap.size cs = ((w.alloc (.cells cs t)).alloc o1) := by
  rw [setRow_alloc_past _ _ _ _ (by first | rfl | (simp [World.size_alloc]; try omega)), setRow_alloc_at _ _ _ _ _ (by first | rfl | (simp [World.size_alloc]; try omega))]
theorem heap_2_1 (w : World) (o0 o1 : Obj) : ((w.alloc o0).alloc o1).heap[w.heap.size + 1]? = some o1 := by
  rw [heap_alloc_at _ _ _ (by first | rfl | (simp [World.size_alloc]; try omega))]
theorem row_2_1 (w : World) (o0 : Obj) (c cs : Array Value) (t : TypeId) : ((w.alloc o0).alloc (.cells c t)).setRow (w.heap.size + 1) cs = ((w.alloc o0).alloc (.cells cs t)) := by
  rw [setRow_alloc_at _ _ _ _ _ (by first | rfl | (simp [World.size_alloc]; try omega))]
theorem heap_3_0 (w : World) (o0 o1 o2 : Obj) : (((w.alloc o0).alloc o1).alloc o2).heap[w.heap.size]? = some o0 := by
  rw [heap_alloc_past _ _ _ (by first | rfl | (simp [World.size_alloc]; try omega)), heap_alloc_past _ _ _ (by first | rfl | (simp [World.size_alloc]; try omega)), heap_alloc_at _ _ _ (by first | rfl | (simp [World.size_alloc]; try omega))]
theorem row_3_0 (w : World) (o1 o2 : Obj) (c cs : Array Value) (t : TypeId) : (((w.alloc (.cells c t)).alloc o1).alloc o2).setRow w.heap.size cs = (((w.alloc (.cells cs t)).alloc o1).alloc o2) := by
  rw [setRow_alloc_past _ _ _ _ (by first | rfl | (simp [World.size_alloc]; try omega)), setRow_alloc_past _ _ _ _ (by first | rfl | (simp [World.size_alloc]; try omega)), setRow_alloc_at _ _ _ _ _ (by first | rfl | (simp [World.size_alloc]; try omega))]
theorem heap_3_1 (w : World) (o0 o1 o2 : Obj) : (((w.alloc o0).alloc o1).alloc o2).heap[w.heap.size + 1]? = some o1 := by
  rw [heap_alloc_past _ _ _ (by first | rfl | (simp [World.size_alloc]; try omega)), heap_alloc_at _ _ _ (by first | rfl | (simp [World.size_alloc]; try omega))]
theorem row_3_1 (w : World) (o0 o2 : Obj) (c cs : Array Value) (t : TypeId) : (((w.alloc o0).alloc (.cells c t)).alloc o2).setRow (w.heap.size + 1) cs = (((w.alloc o0).alloc (.cells cs t)).alloc o2) := by
  rw [setRow_alloc_past _ _ _ _ (by first | rfl | (simp [World.size_alloc]; try omega)), setRow_alloc_at _ _ _ _ _ (by first | rfl | (simp [World.size_alloc]; try omega))]
theorem heap_3_2 (w : World) (o0 o1 o2 : Obj) : (((w.alloc o0).alloc o1).alloc o2).heap[w.heap.size + 2]? = some o2 := by
  rw [heap_alloc_at _ _ _ (by first | rfl | (simp [World.size_alloc]; try omega))]
theorem row_3_2 (w : World) (o0 o1 : Obj) (c cs : Array Value) (t : TypeId) : (((w.alloc o0).alloc o1).alloc (.cells c t)).setRow (w.heap.size + 2) cs = (((w.alloc o0).alloc o1).alloc (.cells cs t)) := by
  rw [setRow_alloc_at _ _ _ _ _ (by first | rfl | (simp [World.size_alloc]; try omega))]
theorem heap_4_0 (w : World) (o0 o1 o2 o3 : Obj) : ((((w.alloc o0).alloc o1).alloc o2).alloc o3).heap[w.heap.size]? = some o0 := by
  rw [heap_alloc_past _ _ _ (by first | rfl | (simp [World.size_alloc]; try omega)), heap_alloc_past _ _ _ (by first | rfl | (simp [World.size_alloc]; try omega)), heap_alloc_past _ _ _ (by first | rfl | (simp [World.size_alloc]; try omega)), heap_alloc_at _ _ _ (by first | rfl | (simp [World.size_alloc]; try omega))]
theorem row_4_0 (w : World) (o1 o2 o3 : Obj) (c cs : Array Value) (t : TypeId) : ((((w.alloc (.cells c t)).alloc o1).alloc o2).alloc o3).setRow w.heap.size cs = ((((w.alloc (.cells cs t)).alloc o1).alloc o2).alloc o3) := by
  rw [setRow_alloc_past _ _ _ _ (by first | rfl | (simp [World.size_alloc]; try omega)), setRow_alloc_past _ _ _ _ (by first | rfl | (simp [World.size_alloc]; try omega)), setRow_alloc_past _ _ _ _ (by first | rfl | (simp [World.size_alloc]; try omega)), setRow_alloc_at _ _ _ _ _ (by first | rfl | (simp [World.size_alloc]; try omega))]
theorem heap_4_1 (w : World) (o0 o1 o2 o3 : Obj) : ((((w.alloc o0).alloc o1).alloc o2).alloc o3).heap[w.heap.size + 1]? = some o1 := by
  rw [heap_alloc_past _ _ _ (by first | rfl | (simp [World.size_alloc]; try omega)), heap_alloc_past _ _ _ (by first | rfl | (simp [World.size_alloc]; try omega)), heap_alloc_at _ _ _ (by first | rfl | (simp [World.size_alloc]; try omega))]
theorem row_4_1 (w : World) (o0 o2 o3 : Obj) (c cs : Array Value) (t : TypeId) : ((((w.alloc o0).alloc (.cells c t)).alloc o2).alloc o3).setRow (w.heap.size + 1) cs = ((((w.alloc o0).alloc (.cells cs t)).alloc o2).alloc o3) := by
  rw [setRow_alloc_past _ _ _ _ (by first | rfl | (simp [World.size_alloc]; try omega)), setRow_alloc_past _ _ _ _ (by first | rfl | (simp [World.size_alloc]; try omega)), setRow_alloc_at _ _ _ _ _ (by first | rfl | (simp [World.size_alloc]; try omega))]
theorem heap_4_2 (w : World) (o0 o1 o2 o3 : Obj) : ((((w.alloc o0).alloc o1).alloc o2).alloc o3).heap[w.heap.size + 2]? = some o2 := by
  rw [heap_alloc_past _ _ _ (by first | rfl | (simp [World.size_alloc]; try omega)), heap_alloc_at _ _ _ (by first | rfl | (simp [World.size_alloc]; try omega))]
theorem row_4_2 (w : World) (o0 o1 o3 : Obj) (c cs : Array Value) (t : TypeId) : ((((w.alloc o0).alloc o1).alloc (.cells c t)).alloc o3).setRow (w.heap.size + 2) cs = ((((w.alloc o0).alloc o1).alloc (.cells cs t)).alloc o3) := by
  rw [setRow_alloc_past _ _ _ _ (by first | rfl | (simp [World.size_alloc]; try omega)), setRow_alloc_at _ _ _ _ _ (by first | rfl | (simp [World.size_alloc]; try omega))]
theorem heap_4_3 (w : World) (o0 o1 o2 o3 : Obj) : ((((w.alloc o0).alloc o1).alloc o2).alloc o3).heap[w.heap.size + 3]? = some o3 := by
  rw [heap_alloc_at _ _ _ (by first | rfl | (simp [World.size_alloc]; try omega))]
theorem row_4_3 (w : World) (o0 o1 o2 : Obj) (c cs : Array Value) (t : TypeId) : ((((w.alloc o0).alloc o1).alloc o2).alloc (.cells c t)).setRow (w.heap.size + 3) cs = ((((w.alloc o0).alloc o1).alloc o2).alloc (.cells cs t)) := by
  rw [setRow_alloc_at _ _ _ _ _ (by first | rfl | (simp [World.size_alloc]; try omega))]
theorem heap_5_0 (w : World) (o0 o1 o2 o3 o4 : Obj) : (((((w.alloc o0).alloc o1).alloc o2).alloc o3).alloc o4).heap[w.heap.size]? = some o0 := by
  rw [heap_alloc_past _ _ _ (by first | rfl | (simp [World.size_alloc]; try omega)), heap_alloc_past _ _ _ (by first | rfl | (simp [World.size_alloc]; try omega)), heap_alloc_past _ _ _ (by first | rfl | (simp [World.size_alloc]; try omega)), heap_alloc_past _ _ _ (by first | rfl | (simp [World.size_alloc]; try omega)), heap_alloc_at _ _ _ (by first | rfl | (simp [World.size_alloc]; try omega))]
theorem row_5_0 (w : World) (o1 o2 o3 o4 : Obj) (c cs : Array Value) (t : TypeId) : (((((w.alloc (.cells c t)).alloc o1).alloc o2).alloc o3).alloc o4).setRow w.heap.size cs = (((((w.alloc (.cells cs t)).alloc o1).alloc o2).alloc o3).alloc o4) := by
  rw [setRow_alloc_past _ _ _ _ (by first | rfl | (simp [World.size_alloc]; try omega)), setRow_alloc_past _ _ _ _ (by first | rfl | (simp [World.size_alloc]; try omega)), setRow_alloc_past _ _ _ _ (by first | rfl | (simp [World.size_alloc]; try omega)), setRow_alloc_past _ _ _ _ (by first | rfl | (simp [World.size_alloc]; try omega)), setRow_alloc_at _ _ _ _ _ (by first | rfl | (simp [World.size_alloc]; try omega))]
theorem heap_5_1 (w : World) (o0 o1 o2 o3 o4 : Obj) : (((((w.alloc o0).alloc o1).alloc o2).alloc o3).alloc o4).heap[w.heap.size + 1]? = some o1 := by
  rw [heap_alloc_past _ _ _ (by first | rfl | (simp [World.size_alloc]; try omega)), heap_alloc_past _ _ _ (by first | rfl | (simp [World.size_alloc]; try omega)), heap_alloc_past _ _ _ (by first | rfl | (simp [World.size_alloc]; try omega)), heap_alloc_at _ _ _ (by first | rfl | (simp [World.size_alloc]; try omega))]
theorem row_5_1 (w : World) (o0 o2 o3 o4 : Obj) (c cs : Array Value) (t : TypeId) : (((((w.alloc o0).alloc (.cells c t)).alloc o2).alloc o3).alloc o4).setRow (w.heap.size + 1) cs = (((((w.alloc o0).alloc (.cells cs t)).alloc o2).alloc o3).alloc o4) := by
  rw [setRow_alloc_past _ _ _ _ (by first | rfl | (simp [World.size_alloc]; try omega)), setRow_alloc_past _ _ _ _ (by first | rfl | (simp [World.size_alloc]; try omega)), setRow_alloc_past _ _ _ _ (by first | rfl | (simp [World.size_alloc]; try omega)), setRow_alloc_at _ _ _ _ _ (by first | rfl | (simp [World.size_alloc]; try omega))]
theorem heap_5_2 (w : World) (o0 o1 o2 o3 o4 : Obj) : (((((w.alloc o0).alloc o1).alloc o2).alloc o3).alloc o4).heap[w.heap.size + 2]? = some o2 := by
  rw [heap_alloc_past _ _ _ (by first | rfl | (simp [World.size_alloc]; try omega)), heap_alloc_past _ _ _ (by first | rfl | (simp [World.size_alloc]; try omega)), heap_alloc_at _ _ _ (by first | rfl | (simp [World.size_alloc]; try omega))]
theorem row_5_2 (w : World) (o0 o1 o3 o4 : Obj) (c cs : Array Value) (t : TypeId) : (((((w.alloc o0).alloc o1).alloc (.cells c t)).alloc o3).alloc o4).setRow (w.heap.size + 2) cs = (((((w.alloc o0).alloc o1).alloc (.cells cs t)).alloc o3).alloc o4) := by
  rw [setRow_alloc_past _ _ _ _ (by first | rfl | (simp [World.size_alloc]; try omega)), setRow_alloc_past _ _ _ _ (by first | rfl | (simp [World.size_alloc]; try omega)), setRow_alloc_at _ _ _ _ _ (by first | rfl | (simp [World.size_alloc]; try omega))]
theorem heap_5_3 (w : World) (o0 o1 o2 o3 o4 : Obj) : (((((w.alloc o0).alloc o1).alloc o2).alloc o3).alloc o4).heap[w.heap.size + 3]? = some o3 := by
  rw [heap_alloc_past _ _ _ (by first | rfl | (simp [World.size_alloc]; try omega)), heap_alloc_at _ _ _ (by first | rfl | (simp [World.size_alloc]; try omega))]
theorem row_5_3 (w : World) (o0 o1 o2 o4 : Obj) (c cs : Array Value) (t : TypeId) : (((((w.alloc o0).alloc o1).alloc o2).alloc (.cells c t)).alloc o4).setRow (w.heap.size + 3) cs = (((((w.alloc o0).alloc o1).alloc o2).alloc (.cells cs t)).alloc o4) := by
  rw [setRow_alloc_past _ _ _ _ (by first | rfl | (simp [World.size_alloc]; try omega)), setRow_alloc_at _ _ _ _ _ (by first | rfl | (simp [World.size_alloc]; try omega))]
theorem heap_5_4 (w : World) (o0 o1 o2 o3 o4 : Obj) : (((((w.alloc o0).alloc o1).alloc o2).alloc o3).alloc o4).heap[w.heap.size + 4]? = some o4 := by
  rw [heap_alloc_at _ _ _ (by first | rfl | (simp [World.size_alloc]; try omega))]
theorem row_5_4 (w : World) (o0 o1 o2 o3 : Obj) (c cs : Array Value) (t : TypeId) : (((((w.alloc o0).alloc o1).alloc o2).alloc o3).alloc (.cells c t)).setRow (w.heap.size + 4) cs = (((((w.alloc o0).alloc o1).alloc o2).alloc o3).alloc (.cells cs t)) := by
  rw [setRow_alloc_at _ _ _ _ _ (by first | rfl | (simp [World.size_alloc]; try omega))]
theorem heap_6_0 (w : World) (o0 o1 o2 o3 o4 o5 : Obj) : ((((((w.alloc o0).alloc o1).alloc o2).alloc o3).alloc o4).alloc o5).heap[w.heap.size]? = some o0 := by
  rw [heap_alloc_past _ _ _ (by first | rfl | (simp [World.size_alloc]; try omega)), heap_alloc_past _ _ _ (by first | rfl | (simp [World.size_alloc]; try omega)), heap_alloc_past _ _ _ (by first | rfl | (simp [World.size_alloc]; try omega)), heap_alloc_past _ _ _ (by first | rfl | (simp [World.size_alloc]; try omega)), heap_alloc_past _ _ _ (by first | rfl | (simp [World.size_alloc]; try omega)), heap_alloc_at _ _ _ (by first | rfl | (simp [World.size_alloc]; try omega))]
theorem row_6_0 (w : World) (o1 o2 o3 o4 o5 : Obj) (c cs : Array Value) (t : TypeId) : ((((((w.alloc (.cells c t)).alloc o1).alloc o2).alloc o3).alloc o4).alloc o5).setRow w.heap.size cs = ((((((w.alloc (.cells cs t)).alloc o1).alloc o2).alloc o3).alloc o4).alloc o5) := by
  rw [setRow_alloc_past _ _ _ _ (by first | rfl | (simp [World.size_alloc]; try omega)), setRow_alloc_past _ _ _ _ (by first | rfl | (simp [World.size_alloc]; try omega)), setRow_alloc_past _ _ _ _ (by first | rfl | (simp [World.size_alloc]; try omega)), setRow_alloc_past _ _ _ _ (by first | rfl | (simp [World.size_alloc]; try omega)), setRow_alloc_past _ _ _ _ (by first | rfl | (simp [World.size_alloc]; try omega)), setRow_alloc_at _ _ _ _ _ (by first | rfl | (simp [World.size_alloc]; try omega))]
theorem heap_6_1 (w : World) (o0 o1 o2 o3 o4 o5 : Obj) : ((((((w.alloc o0).alloc o1).alloc o2).alloc o3).alloc o4).alloc o5).heap[w.heap.size + 1]? = some o1 := by
  rw [heap_alloc_past _ _ _ (by first | rfl | (simp [World.size_alloc]; try omega)), heap_alloc_past _ _ _ (by first | rfl | (simp [World.size_alloc]; try omega)), heap_alloc_past _ _ _ (by first | rfl | (simp [World.size_alloc]; try omega)), heap_alloc_past _ _ _ (by first | rfl | (simp [World.size_alloc]; try omega)), heap_alloc_at _ _ _ (by first | rfl | (simp [World.size_alloc]; try omega))]
theorem row_6_1 (w : World) (o0 o2 o3 o4 o5 : Obj) (c cs : Array Value) (t : TypeId) : ((((((w.alloc o0).alloc (.cells c t)).alloc o2).alloc o3).alloc o4).alloc o5).setRow (w.heap.size + 1) cs = ((((((w.alloc o0).alloc (.cells cs t)).alloc o2).alloc o3).alloc o4).alloc o5) := by
  rw [setRow_alloc_past _ _ _ _ (by first | rfl | (simp [World.size_alloc]; try omega)), setRow_alloc_past _ _ _ _ (by first | rfl | (simp [World.size_alloc]; try omega)), setRow_alloc_past _ _ _ _ (by first | rfl | (simp [World.size_alloc]; try omega)), setRow_alloc_past _ _ _ _ (by first | rfl | (simp [World.size_alloc]; try omega)), setRow_alloc_at _ _ _ _ _ (by first | rfl | (simp [World.size_alloc]; try omega))]
theorem heap_6_2 (w : World) (o0 o1 o2 o3 o4 o5 : Obj) : ((((((w.alloc o0).alloc o1).alloc o2).alloc o3).alloc o4).alloc o5).heap[w.heap.size + 2]? = some o2 := by
  rw [heap_alloc_past _ _ _ (by first | rfl | (simp [World.size_alloc]; try omega)), heap_alloc_past _ _ _ (by first | rfl | (simp [World.size_alloc]; try omega)), heap_alloc_past _ _ _ (by first | rfl | (simp [World.size_alloc]; try omega)), heap_alloc_at _ _ _ (by first | rfl | (simp [World.size_alloc]; try omega))]
theorem row_6_2 (w : World) (o0 o1 o3 o4 o5 : Obj) (c cs : Array Value) (t : TypeId) : ((((((w.alloc o0).alloc o1).alloc (.cells c t)).alloc o3).alloc o4).alloc o5).setRow (w.heap.size + 2) cs = ((((((w.alloc o0).alloc o1).alloc (.cells cs t)).alloc o3).alloc o4).alloc o5) := by
  rw [setRow_alloc_past _ _ _ _ (by first | rfl | (simp [World.size_alloc]; try omega)), setRow_alloc_past _ _ _ _ (by first | rfl | (simp [World.size_alloc]; try omega)), setRow_alloc_past _ _ _ _ (by first | rfl | (simp [World.size_alloc]; try omega)), setRow_alloc_at _ _ _ _ _ (by first | rfl | (simp [World.size_alloc]; try omega))]
theorem heap_6_3 (w : World) (o0 o1 o2 o3 o4 o5 : Obj) : ((((((w.alloc o0).alloc o1).alloc o2).alloc o3).alloc o4).alloc o5).heap[w.heap.size + 3]? = some o3 := by
  rw [heap_alloc_past _ _ _ (by first | rfl | (simp [World.size_alloc]; try omega)), heap_alloc_past _ _ _ (by first | rfl | (simp [World.size_alloc]; try omega)), heap_alloc_at _ _ _ (by first | rfl | (simp [World.size_alloc]; try omega))]
theorem row_6_3 (w : World) (o0 o1 o2 o4 o5 : Obj) (c cs : Array Value) (t : TypeId) : ((((((w.alloc o0).alloc o1).alloc o2).alloc (.cells c t)).alloc o4).alloc o5).setRow (w.heap.size + 3) cs = ((((((w.alloc o0).alloc o1).alloc o2).alloc (.cells cs t)).alloc o4).alloc o5) := by
  rw [setRow_alloc_past _ _ _ _ (by first | rfl | (simp [World.size_alloc]; try omega)), setRow_alloc_past _ _ _ _ (by first | rfl | (simp [World.size_alloc]; try omega)), setRow_alloc_at _ _ _ _ _ (by first | rfl | (simp [World.size_alloc]; try omega))]
theorem heap_6_4 (w : World) (o0 o1 o2 o3 o4 o5 : Obj) : ((((((w.alloc o0).alloc o1).alloc o2).alloc o3).alloc o4).alloc o5).heap[w.heap.size + 4]? = some o4 := by
  rw [heap_alloc_past _ _ _ (by first | rfl | (simp [World.size_alloc]; try omega)), heap_alloc_at _ _ _ (by first | rfl | (simp [World.size_alloc]; try omega))]
theorem row_6_4 (w : World) (o0 o1 o2 o3 o5 : Obj) (c cs : Array Value) (t : TypeId) : ((((((w.alloc o0).alloc o1).alloc o2).alloc o3).alloc (.cells c t)).alloc o5).setRow (w.heap.size + 4) cs = ((((((w.alloc o0).alloc o1).alloc o2).alloc o3).alloc (.cells cs t)).alloc o5) := by
  rw [setRow_alloc_past _ _ _ _ (by first | rfl | (simp [World.size_alloc]; try omega)), setRow_alloc_at _ _ _ _ _ (by first | rfl | (simp [World.size_alloc]; try omega))]
theorem heap_6_5 (w : World) (o0 o1 o2 o3 o4 o5 : Obj) : ((((((w.alloc o0).alloc o1).alloc o2).alloc o3).alloc o4).alloc o5).heap[w.heap.size + 5]? = some o5 := by
  rw [heap_alloc_at _ _ _ (by first | rfl | (simp [World.size_alloc]; try omega))]
theorem row_6_5 (w : World) (o0 o1 o2 o3 o4 : Obj) (c cs : Array Value) (t : TypeId) : ((((((w.alloc o0).alloc o1).alloc o2).alloc o3).alloc o4).alloc (.cells c t)).setRow (w.heap.size + 5) cs = ((((((w.alloc o0).alloc o1).alloc o2).alloc o3).alloc o4).alloc (.cells cs t)) := by
  rw [setRow_alloc_at _ _ _ _ _ (by first | rfl | (simp [World.size_alloc]; try omega))]

section
variable {P : Program} {ops : Array Oper} {rest : List Oper} {o : Oper} {a : Act} {w : World} {Q : Exit → Act → World → Prop}

theorem wp_alloc_as {K : Act → World → Prop} (T : TypeId) (ho : o.op = .alloc T) (z : Array Value)
    (hz : (Instr.alloc T true (.tuple #[])).run P w = .ok (.pointer (some ⟨w.heap.size, 0, none⟩)) (w.alloc (.cells z T)))
    (h : K (a.put o.dst (.pointer (some ⟨w.heap.size, 0, none⟩))) (w.alloc (.cells z T))) : o.wp P a w K Q := by
  unfold Oper.wp execOp
  simp only [ho, Sem.run_bind, hz, Result.andThen_ok]
  exact h

theorem wpList_alloc_as (hgd : o.guard = none) (T : TypeId) (ho : o.op = .alloc T) (z : Array Value)
    (hz : (Instr.alloc T true (.tuple #[])).run P w = .ok (.pointer (some ⟨w.heap.size, 0, none⟩)) (w.alloc (.cells z T)))
    (h : wpList P ops Q rest (a.put o.dst (.pointer (some ⟨w.heap.size, 0, none⟩))) (w.alloc (.cells z T))) : wpList P ops Q (o :: rest) a w := by
  refine wpList_plain hgd fun K hK => ?_
  unfold Oper.wp execOp
  simp only [ho, Sem.run_bind, hz, Result.andThen_ok]
  exact hK _ _ h

theorem wpList_build_as (hgd : o.guard = none) (T : TypeId) (ho : o.op = .build T #[]) (z : Array Value) (hz : P.built T [] = some z)
    (h : wpList P ops Q rest (a.put o.dst (.agg z)) w) : wpList P ops Q (o :: rest) a w := by
  refine wpList_build hgd T #[] ho (by simp [hz]) ?_
  simpa [hz] using h

theorem wpList_load_rowAs (hgd : o.guard = none) (ty : TypeId) (x : Operand) (ho : o.op = .load ty x)
    (g : Nat) (hx : a.eval x = .pointer (some ⟨g, 0, none⟩)) (t : TypeId) (cs : Array Value) (fr : Nat × Nat) (d : TypeDesc) (n : Nat) (hg : w.heap[g]? = some (.cells cs t fr))
    (hu : P.underlying ty = some d) (hd : (match d with | .struct _ | .array _ _ => true | _ => false) = true) (hi : (P.info? ty).map (·.size) = some n) (hn : cs.size = n)
    (h : wpList P ops Q rest (a.put o.dst (.agg cs)) w) : wpList P ops Q (o :: rest) a w :=
  wpList_load_row hgd ty x ho g hx t cs fr d hg hu hd (by rw [hn]; exact hi) h

theorem wpList_store_rowAs (hgd : o.guard = none) (ty : TypeId) (x y : Operand) (ho : o.op = .store ty x y)
    (g : Nat) (cells : Array Value) (hx : a.eval x = .pointer (some ⟨g, 0, none⟩)) (hy : a.eval y = .agg cells)
    (t : TypeId) (old : Array Value) (n : Nat) (hg : w.heap[g]? = some (.cells old t (0, 0))) (hi : (P.info? ty).map (·.size) = some n) (hn : cells.size = n)
    (hold : old.size = n) (h1 : cells.all (·.oneCell') = true)
    (h : wpList P ops Q rest (a.put o.dst undef) (w.setRow g cells)) : wpList P ops Q (o :: rest) a w :=
  wpList_plain hgd fun _ hK => wp_store_row ty x y ho g cells hx hy t old hg (by rw [hn]; exact hi) (by rw [hold, hn]) h1 (hK _ _ h)
end

section
variable {P : Program} {ops : Array Oper} {rest : List Oper} {o : Oper} {a : Act} {w : World} {Q : Exit → Act → World → Prop}
/-- The same behind a guard that holds. -/
theorem wpList_load_rowG (hw : Region.wanted o (yielded ops a.tmps) = true) (ty : TypeId) (x : Operand) (ho : o.op = .load ty x)
    (g : Nat) (hx : a.eval x = .pointer (some ⟨g, 0, none⟩)) (t : TypeId) (cs : Array Value) (fr : Nat × Nat) (d : TypeDesc) (n : Nat) (hg : w.heap[g]? = some (.cells cs t fr))
    (hu : P.underlying ty = some d) (hd : (match d with | .struct _ | .array _ _ => true | _ => false) = true) (hi : (P.info? ty).map (·.size) = some n) (hn : cs.size = n)
    (h : wpList P ops Q rest (a.put o.dst (.agg cs)) w) : wpList P ops Q (o :: rest) a w :=
  BigFrame.wpList_want hw fun _ hK => wp_load_row ty x ho g hx t cs fr d hg hu hd (by rw [hn]; exact hi) (hK _ _ h)

end

theorem results_row_tmp {P : Program} {fn : Func} {p u : Tmp} {ty : TypeId} (h : fn.results = #[.cell p ty, .tmp u]) (tmps : Array Value) (w : World) (g : Nat) (t : TypeId) (cs : Array Value) (fr : Nat × Nat) (d : TypeDesc) (n : Nat) (x : Value)
    (hx : tmps.getD u undef = x) (hp : tmps.getD p undef = .pointer (some ⟨g, 0, none⟩)) (hg : w.heap[g]? = some (.cells cs t fr))
    (hu : P.underlying ty = some d) (hd : (match d with | .struct _ | .array _ _ => true | _ => false) = true) (hi : (P.info? ty).map (·.size) = some n) (hn : cs.size = n) :
    (results fn tmps).run P w = .ok (.tuple #[.agg cs, x]) w := by
  subst hx
  have hp' : tmps[p]?.getD undef = .pointer (some ⟨g, 0, none⟩) := by simpa using hp
  simp [results, h, hp', asAddr, run_loadVar_row w g t ty cs fr d hg hu hd (by rw [hn]; exact hi)]

theorem below1 (w : World) (a : Obj) : Below w.heap.size w (w.alloc a) := (Below.refl _ _).alloc (Nat.le_refl _) _
theorem below2 (w : World) (a b : Obj) : Below w.heap.size w ((w.alloc a).alloc b) := (below1 w a).alloc (by simp) _
theorem below3 (w : World) (a b c : Obj) : Below w.heap.size w (((w.alloc a).alloc b).alloc c) := (below2 w a b).alloc (by simp; omega) _
theorem below4 (w : World) (a b c d : Obj) : Below w.heap.size w ((((w.alloc a).alloc b).alloc c).alloc d) := (below3 w a b c).alloc (by simp; omega) _

theorem lt_of_heap {w : World} {n : Nat} {o : Obj} (h : w.heap[n]? = some o) : n < w.heap.size := (Array.getElem?_eq_some_iff.1 h).1
theorem below_drewN {B : Nat} {w0 w : World} (h : Below B w0 w) (n : Nat) : Below B w0 (w.drewN n) := ⟨h.os, h.tape, h.output, h.size, h.block⟩
theorem below_setRow {B g : Nat} {w0 w : World} (hb : Below B w0 w) (hBg : B ≤ g) (cs : Array Value) : Below B w0 (w.setRow g cs) :=
  hb.trans ⟨rfl, rfl, rfl, by simp, fun k hk => setRow_other w g k cs (by omega)⟩

theorem mixed : Try.prog.follows .mixedOrders = true := by kernel_rfl
end Go.Proofs.Ytildjnibdappnaa
