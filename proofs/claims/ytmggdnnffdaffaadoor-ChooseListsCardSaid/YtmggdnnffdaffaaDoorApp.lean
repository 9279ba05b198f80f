/- A list appended to an empty one: as one step of a walk, whatever its elements are. -/
import Derived.Test.YtmggdnnffdaffaaDoorDLeaf
import Derived.Lib.Hide
import Derived.Deep.AppendSrc
import Derived.OwnWalk
import Derived.Laws.Append
import Derived.Laws.AppendOwn
import Derived.Deep.Upon
namespace Go.Proofs.YtmggdnnffdaffaaDoor
open Go.RowKit

theorem fresh_atA (w : World) (o : Array Value) (j : Nat) {t : TypeId} : (w.alloc (.cells o t)).cell? ⟨w.heap.size, j, none⟩ = o[j]? := by simp
theorem fresh_openA (w : World) (o : Array Value) (i : Nat) {t : TypeId} : (w.alloc (.cells o t)).frozen? ⟨w.heap.size, i, none⟩ = false := by simp
/-- A fresh list appended to an empty one. -/
theorem wpList_append_fresh {te ts : TypeId} {zv : Value} {sz by_ : Nat} (hinfo : (Tryd.prog.info? te).map (fun i => (i.zero, i.size, i.bytes)) = some (some zv, sz, by_)) (hts : Tryd.prog.underlying ts = some (.slice te))
    {ops : Array Oper} {rest : List Oper} {o : Oper} {a : Act} {Q : Exit → Act → World → Prop} (w : World)
    (hg : o.guard = none) (s x : Operand) (hop : o.op = Op.call { callee := Callee.builtin Builtin.append, args := #[s, x], argTypes := #[ts, ts] })
    (ad0 : Option Addr) (hs : a.eval s = .slice ad0 0 0) (g off n cap : Nat) (cs : List Value) (hx : a.eval x = .slice (some ⟨g, off, none⟩) n cap) (hS : ∀ j, j < n * sz → w.cell? ⟨g, off + j, none⟩ = cs[j]?) (hl : cs.length = n * sz) (hone : ∀ u ∈ cs, u.oneCell' = true)
    (h1 : 1 ≤ n) (hby : 1 ≤ by_) (hn : n * by_ ≤ 140737488355328)
    (hK : ∀ cap' w', n ≤ cap' → Below w.heap.size w w' → w.heap.size + 1 ≤ w'.heap.size → (∀ j, j < n * sz → w'.cell? ⟨w.heap.size, j, none⟩ = cs[j]?) → (∀ i, w'.frozen? ⟨w.heap.size, i, none⟩ = false) → (∃ cur, w'.heap[w.heap.size]? = some (.cells cur te (0, 0))) → wpList Tryd.prog ops Q rest (a.put o.dst (.slice (some ⟨w.heap.size, 0, none⟩) n cap')) w') :
    wpList Tryd.prog ops Q (o :: rest) a w := by
  refine wpList_plain hg fun K hK' => ?_
  obtain ⟨i, hi, hz0, hz1, hz2⟩ := info_parts hinfo
  have hsrc : Src Tryd.prog i.size ts (.slice (some ⟨g, off, none⟩) n cap) n cs w := by
    refine Src.ofSlice w hts ⟨g, off, none⟩ n cap cs (by rw [hz1, hl]) (fun j u hj => ?_) (fun u hu => hone u hu)
    have hlt : j < n * sz := by have := (List.getElem?_eq_some_iff.1 hj).1; omega
    have hadd : (⟨g, off, none⟩ : Addr).add j = ⟨g, off + j, none⟩ := by unfold Addr.add; split <;> simp_all
    rw [hadd, hS j hlt, hj]
  have hn2 : n ≤ n * by_ := Nat.le_mul_of_pos_right n hby
  have hrun := run_append_grow_src (P := Tryd.prog) w ts ts o.type te i _ hts hi hz0 ad0 0 0 [] (by cases ad0 with | none => exact run_firstCells_none w.drew i.size 0 0 0 | some ad => exact run_firstCells_some w.drew i.size 0 ad 0 0 [] (by simp) (fun j u h => by simp at h)) _ n cs hsrc (by omega) (by omega) (growslice_fits (by omega) (by rw [hz2, Nat.zero_add]; omega))
  rw [Nat.zero_add] at hrun
  have hcap : n ≤ grownCap w n 0 te := grownCap_ge w n 0 te
  unfold Oper.wp
  simp [execOp, hop, resolve, invoke, builtin, hs, hx, hrun, Result.andThen]
  have hbd : Below w.heap.size w w.drew := ⟨rfl, rfl, rfl, Nat.le_refl _, fun _ _ => rfl⟩
  generalize hZ : Builtin.zeroCells zv.cells (grownCap w n 0 te - n) = Z
  have hat : ∀ j, j < n * sz → (w.drew.alloc (.cells (cs.toArray ++ Z) te)).cell? ⟨w.heap.size, j, none⟩ = cs[j]? := fun j hj => (fresh_atA w.drew _ j).trans (by
    rw [Array.getElem?_append_left (by simpa [hl] using hj)]
    simp)
  exact hK' _ _ (hK _ _ hcap (hbd.alloc (Nat.le_refl _) _) (by simp) hat (fun i => fresh_openA w.drew _ i) ⟨_, heap_alloc_new w.drew _⟩)
/-- Nothing appended to an empty list. -/
theorem wpList_append_empty {te ts : TypeId} {zv : Value} {sz by_ : Nat} (hinfo : (Tryd.prog.info? te).map (fun i => (i.zero, i.size, i.bytes)) = some (some zv, sz, by_)) (hts : Tryd.prog.underlying ts = some (.slice te))
    {ops : Array Oper} {rest : List Oper} {o : Oper} {a : Act} {Q : Exit → Act → World → Prop} (w : World)
    (hg : o.guard = none) (s x : Operand) (hop : o.op = Op.call { callee := Callee.builtin Builtin.append, args := #[s, x], argTypes := #[ts, ts] })
    (ad0 : Option Addr) (hs : a.eval s = .slice ad0 0 0) (ad : Option Addr) (cap : Nat) (hx : a.eval x = .slice ad 0 cap)
    (hK : wpList Tryd.prog ops Q rest (a.put o.dst (.slice ad0 0 0)) w) :
    wpList Tryd.prog ops Q (o :: rest) a w := by
  refine wpList_plain hg fun K hK' => ?_
  obtain ⟨i, hi, hz0, hz1, hz2⟩ := info_parts hinfo
  have hsrc : Src Tryd.prog i.size ts (.slice ad 0 cap) 0 [] w := by
    cases ad with
    | none => exact Src.ofNil w hts cap
    | some ad => exact Src.ofSlice w hts ad 0 cap [] (by simp) (fun j u h => by simp at h) (fun u h => by simp at h)
  have hrun := run_append_nothing (P := Tryd.prog) w ts ts o.type te i hts hi ad0 0 0 (Nat.le_refl _) _ hsrc
  unfold Oper.wp
  simp [execOp, hop, resolve, invoke, builtin, hs, hx, hrun, Result.andThen]
  exact hK' _ _ hK
end Go.Proofs.YtmggdnnffdaffaaDoor
