/- A row of bytes of the call's own: appended to, and turned into a string. -/
import Derived.Test.YtmggdnnffdaffaaDoorProg
import Derived.WalkKit
import Derived.WalkSpells
import Derived.WalkLawsBesides
import Derived.Lib.AppendStr
import Derived.Lib.UnsafeStr
import Derived.Lib.BufferRead
import Derived.Laws.OwnMore
import Derived.Lib.Builder
import Derived.Lib.Hide
namespace Go.Proofs.YtmggdnnffdaffaaDoor
open Go.RowKit

/-- The value owns the bytes. -/
def Row (B : Nat) (v : Value) (l : List UInt8) (w : World) : Prop := w.ownsRow B 5 1 v l.length (Lib.byteCells l)

theorem Row.empty (w : World) : Row w.heap.size (.slice (some ⟨w.heap.size, 0, none⟩) 0 0) [] (w.alloc (.cells #[] 5)) :=
  World.ownsRow_lit w #[] 0 (Nat.le_refl _) (by unfold maxLen; omega) rfl

theorem Row.kept {B : Nat} {v : Value} {l : List UInt8} {w : World} (h : Row B v l w) (o : Obj) : Row B v l (w.alloc o) := World.ownsRow.alloc h o

theorem row_info : (Tryd.prog.info? 5).map (fun i => (i.zero, i.size, i.bytes)) = some (some (.int .u8 0), 1, 1) := by kernel_rfl

/-- append(v, s...) of a string. -/
theorem wp_append_string {ops : Array Oper} {rest : List Oper} {o : Oper} {a : Act} {w : World} {Q : Exit → Act → World → Prop} (hgd : o.guard = none) (sl x : Operand)
    (ho : o.op = .call { callee := .builtin .append, args := #[sl, x], argTypes := #[71, 9] }) (B : Nat) (v : Value) (l : List UInt8) (hs : a.eval sl = v) (h : Row B v l w) (s : ByteArray) (hx : a.eval x = .string s)
    (hlen : l.length + s.size ≤ 140737488355328) (hB : B ≤ w.heap.size)
    (k : ∀ v' w', Row B v' (l ++ s.data.toList) w' → Below B w w' → wpList Tryd.prog ops Q rest (a.put o.dst v') w') : wpList Tryd.prog ops Q (o :: rest) a w := by
  obtain ⟨i0, hi, hz0, hz1, hz2⟩ := info_parts row_info
  refine Lib.wpList_append_own_string _ hgd sl x 71 9 ho B 5 i0 Tryd.underlying71 Tryd.underlying9 hi hz0 hz1 hz2 v l.length _ hs h s hx (by unfold maxLen; omega) hlen hB fun v' w' h1 h2 _ => ?_
  refine k v' w' ?_ ((Below.refl B w).grown h2 hB (fun j hj => (World.ownsRow.lt h j hj).1))
  unfold Row
  rw [Lib.byteCells_append, List.length_append, ← Lib.strCells_eq]
  have e : s.data.toList.length = s.size := by simp
  rw [e]
  exact h1

/-- append(v, bytes..) of bytes that were just laid. -/
theorem wp_append_new {ops : Array Oper} {rest : List Oper} {o : Oper} {a : Act} {w : World} {Q : Exit → Act → World → Prop} (hgd : o.guard = none) (sl x : Operand)
    (ho : o.op = .call { callee := .builtin .append, args := #[sl, x], argTypes := #[71, 71] }) (B : Nat) (v : Value) (l : List UInt8) (hs : a.eval sl = v) (h : Row B v l w) (news : List UInt8) (cs : Array Value) (m : Nat)
    (hx : a.eval x = .slice (some ⟨w.heap.size, 0, none⟩) m m) (hm : m = news.length) (hcs : cs = (Lib.byteCells news).toArray)
    (hlen : l.length + m ≤ 140737488355328) (hB : B ≤ w.heap.size)
    (k : ∀ v' w', Row B v' (l ++ news) w' → Below B w w' → wpList Tryd.prog ops Q rest (a.put o.dst v') w') : wpList Tryd.prog ops Q (o :: rest) a (w.alloc (.cells cs 5)) := by
  obtain ⟨i0, hi, hz0, hz1, hz2⟩ := info_parts row_info
  refine wpList_append_own _ hgd sl x 71 ho B 5 i0 (.int .u8 0) 1 1 Tryd.underlying71 hi hz0 hz1 hz2 rfl (by decide) v l.length _ hs (h.kept _) ⟨w.heap.size, 0, none⟩ m m (Lib.byteCells news) hx (by rw [Lib.byteCells_length, hm]; omega) ?_ ?_ (by unfold maxLen; omega) (by omega) (by simp; omega) fun v' w' h1 h2 _ => ?_
  · intro j u hj
    have hadd : (⟨w.heap.size, 0, none⟩ : Addr).add j = ⟨w.heap.size, j, none⟩ := by unfold Addr.add; split <;> simp_all
    rw [hadd, cell_of_row _ _ j _ _ _ (heap_alloc_new w _), hcs]
    simpa using hj
  · intro u hu
    simp only [Lib.byteCells, List.mem_map] at hu
    obtain ⟨b, _, rfl⟩ := hu
    rfl
  · refine k v' w' ?_ (((Below.refl B w).alloc hB _).grown h2 (by simp; omega) (fun j hj => (World.ownsRow.lt h j hj).1))
    unfold Row
    rw [Lib.byteCells_append, List.length_append, ← hm]
    exact h1

/-- string(v). -/
theorem row_string {B : Nat} {v : Value} {l : List UInt8} {w : World} (h : Row B v l w) : (convert 71 9 v).run Tryd.prog w = .ok (.string ⟨l.toArray⟩) w := by
  rcases h.2 with ⟨rfl, h0⟩ | ⟨g, cap, cur, rfl, hB, hg, hn, hm, hsz, htake⟩
  · obtain rfl : l = [] := List.eq_nil_of_length_eq_zero h0
    exact Lib.run_convert_nil_bytes w 71 9 5 0 Tryd.underlying71 Tryd.underlying5 Tryd.underlying9
  · refine run_convert_bytes_back w 71 9 5 ⟨g, 0, none⟩ cap l Tryd.underlying71 Tryd.underlying5 Tryd.underlying9 fun j hj => ?_
    have hadd : (⟨g, 0, none⟩ : Addr).add j = ⟨g, j, none⟩ := by unfold Addr.add; split <;> simp_all
    have hj' : j < (Lib.byteCells l).length := by rw [Lib.byteCells_length]; exact hj
    rw [hadd, cell_of_row w g j _ _ _ hg]
    have e : cur.toList[j]? = (Lib.byteCells l)[j]? := by
      rw [← htake, List.getElem?_take, if_pos (by omega)]
    rw [← Array.getElem?_toList, e, List.getElem?_eq_getElem hj']
    simp [Lib.byteCells]
end Go.Proofs.YtmggdnnffdaffaaDoor
