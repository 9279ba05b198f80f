/- Blocks of digits: words for memory, copies, strings made of them. -/
import Derived.Test.YtmggdnnffdaffaaDoorDForm
import Derived.Below
import Derived.Laws.OwnMore
import Derived.Laws.Rows
import Derived.Laws.CopyOwn
import Derived.Deep.Draws
import Derived.Deep.OwnRows
import Derived.Deep.RegionLaw
import Derived.Lib.BufferWrite
import Derived.Lib.UnsafeStr
namespace Go.Proofs.YtmggdnnffdaffaaDoor
open Go.RowKit

/-- A block that is known whole. -/
def Blk (w : World) (g : Nat) (cs : List Value) : Prop := w.heap[g]? = some (.cells cs.toArray 5 (0, 0))
section
variable {w w' : World} {g : Nat} {cs : List Value}
theorem Blk.lt (h : Blk w g cs) : g < w.heap.size := by
  rcases Nat.lt_or_ge g w.heap.size with hlt | hge
  · exact hlt
  · unfold Blk at h; rw [Array.getElem?_eq_none hge] at h; cases h
theorem Blk.cell (h : Blk w g cs) (i : Nat) : w.cell? ⟨g, i, none⟩ = cs[i]? := by
  rw [cell_of_row w g i _ _ (0, 0) h]; simp
theorem Blk.frozen (h : Blk w g cs) (i : Nat) : w.frozen? ⟨g, i, none⟩ = false := by
  unfold Blk at h
  simp [World.frozen?, h]
theorem Blk.new (w : World) (cs : List Value) (a : Array Value) (ha : a = cs.toArray) : Blk (w.alloc (.cells a 5)) w.heap.size cs := by rw [ha]; exact heap_alloc_new w _
theorem Blk.drewN (h : Blk w g cs) (n : Nat) : Blk (w.drewN n) g cs := h
theorem Blk.alloc (h : Blk w g cs) (o : Obj) : Blk (w.alloc o) g cs := (Below.heap_alloc w o g h.lt).trans h
theorem Blk.set_ (h : Blk w g cs) (i : Nat) (u : Value) : Blk (w.setCell ⟨g, i, none⟩ u) g (cs.set i u) := by
  unfold Blk at h ⊢
  simp [World.setCell, Array.getElem?_modify, h]
theorem Blk.far (h : Blk w g cs) {p : Addr} (hp : g ≠ p.block) (u : Value) : Blk (w.setCell p u) g cs := (Below.heap_setCell w p u g hp).trans h
theorem Blk.below {B : Nat} (h : Blk w g cs) (hb : Below B w w') (hg : g < B) : Blk w' g cs := (hb.block g hg).trans h
end

/-- Digits as cells. -/
def nC (l : List Nat) : List Value := l.map fun (d : Nat) => Value.int .u8 ((d : Nat) : Int)
theorem nC_len (l : List Nat) : (nC l).length = l.length := by unfold nC; simp
theorem nC_append (a b : List Nat) : nC (a ++ b) = nC a ++ nC b := by unfold nC; simp
theorem nC_get (l : List Nat) (k : Nat) (h : k < l.length) : (nC l)[k]? = some (.int .u8 ((l.getD k 0 : Nat) : Int)) := by
  unfold nC
  rw [List.getElem?_map, List.getD_eq_getElem?_getD, List.getElem?_eq_getElem h]
  rfl
theorem nC_one (l : List Nat) : ∀ v ∈ nC l, v.oneCell' = true := by
  intro v hv
  simp only [nC, List.mem_map] at hv
  obtain ⟨b, _, rfl⟩ := hv
  rfl
theorem nC_set (l : List Nat) (k d : Nat) : (nC l).set k (.int .u8 (d : Int)) = nC (l.set k d) := by unfold nC; rw [List.map_set]
theorem nC_take (l : List Nat) (k : Nat) : nC (l.take k) = (nC l).take k := by unfold nC; rw [List.map_take]
theorem nC_drop (l : List Nat) (k : Nat) : nC (l.drop k) = (nC l).drop k := by unfold nC; rw [List.map_drop]
theorem nC_zeros (n : Nat) : nC (List.replicate n 0) = List.replicate n (.int .u8 0) := by unfold nC; simp
/-- Bytes are numbers. -/
theorem byte_cells (l : List Nat) (h : Digs l) : Lib.byteCells (dStr l).data.toList = nC (l.map (48 + ·)) := by
  unfold Lib.byteCells nC
  rw [dStr_toList, List.map_map, List.map_map]
  refine List.map_congr_left fun d hd => ?_
  have := h d hd
  show Value.int .u8 (((48 + d).toUInt8.toNat : Nat) : Int) = .int .u8 ((48 + d : Nat) : Int)
  rw [byte_nat this]
theorem byte_cells_of (l : List Nat) (h : Digs l) : Lib.byteCells (dB l) = nC (l.map (48 + ·)) := by rw [← byte_cells l h, dStr_toList]; rfl
theorem set_mid {α : Type} (a b : List α) (x y : α) (k : Nat) (h : k = a.length) : (a ++ x :: b).set k y = a ++ y :: b := by subst h; simp
theorem get_mid (a b : List Nat) (x k : Nat) (h : k = a.length) : (a ++ x :: b).getD k 0 = x := by subst h; simp
theorem bytes_size : (Tryd.prog.info? 5).map (·.size) = some 1 := by kernel_rfl
theorem bytes_some : ((Tryd.prog.info? 5).map (·.size)).isSome = true := by kernel_rfl

theorem byte_info : (Tryd.prog.info? 5).map (fun i => (i.zero, i.size, i.bytes)) = some (some (.int .u8 0), 1, 1) := by kernel_rfl
theorem made_zeros (n : Nat) : madeCells #[Value.int .u8 0] n = (nC (List.replicate n 0)).toArray := by
  rw [nC_zeros]
  apply Array.ext
  · simp [madeCells]
  · intro k h1 h2
    simp [madeCells, Nat.mod_one]
/-- A block of noughts. -/
theorem make_bytes (n : Nat) (h : n ≤ 1000000) (w : World) (Z : Array Value) (hZ : Z = (nC (List.replicate n 0)).toArray) : (Instr.makeSlice 71 (.int .i64 n) (.int .i64 n)).run Tryd.prog w = .ok (.slice (some ⟨w.heap.size, 0, none⟩) n n) (w.alloc (.cells Z 5)) := by
  rw [hZ, ← made_zeros]
  exact run_make_row' (P := Tryd.prog) 71 5 (.int .u8 0) 1 Tryd.underlying71 byte_info rfl .i64 .i64 n (by omega) (by omega) w
/-- A copy of a string's bytes over a block's cells, one step of a region that draws. -/
theorem step_copy_str {ops : Array Oper} {o : Oper} {a : Act} {w : World} {K : Act → World → Prop} {Q : Exit → Act → World → Prop} {E : Prop} (hgd : o.guard = none) (d s : Operand)
    (ho : o.op = .call { callee := .builtin .copy, args := #[d, s], argTypes := #[71, 9] })
    (dp : Option Addr) (dLen dCap : Nat) (hd : a.eval d = .slice dp dLen dCap) (t : ByteArray) (hs : a.eval s = .string t) (hle : t.size ≤ dLen)
    (g off : Nat) (cur : List Value) (hg : Blk w g cur) (hpos : 0 < t.size → dp = some ⟨g, off, none⟩) (hfit : off + t.size ≤ cur.length) (B : Nat) (w0 : World) (hb : Below B w0 w) (hBg : B ≤ g)
    (h : ∀ w', Hid (Blk w' g (splice cur off (Lib.byteCells t.data.toList))) → Below B w0 w' → K (a.put o.dst (goInt t.size)) w') :
    if Region.wanted o (yielded ops a.tmps) = true then Oper.wp Tryd.prog o a w K Q else E := by
  have hw : Region.wanted o (yielded ops a.tmps) = true := by simp [Region.wanted, hgd]
  rw [if_pos hw]
  by_cases h0 : t.size = 0
  · have hrun := Lib.run_copy_empty_string (P := Tryd.prog) w 71 9 o.type 5 dp dLen dCap t Tryd.underlying71 bytes_some h0
    unfold Oper.wp
    simp [execOp, ho, resolve, invoke, builtin, hd, hs, hrun, Result.andThen]
    have e : t.data.toList = [] := List.eq_nil_of_length_eq_zero (by simpa using h0)
    have e2 : splice cur off (Lib.byteCells t.data.toList) = cur := by rw [e]; simp [splice, Lib.byteCells]
    have hk := h w (by rw [e2]; exact hg) hb
    rw [h0] at hk
    exact hk
  · obtain rfl := hpos (by omega)
    have hrun := Lib.run_copy_row_string (P := Tryd.prog) w 71 9 o.type 5 g off dLen dCap t cur.toArray 5 Tryd.underlying71 bytes_size hg hle (by simpa using hfit)
    unfold Oper.wp
    simp [execOp, ho, resolve, invoke, builtin, hd, hs, hrun, Result.andThen]
    refine h _ ?_ (below_setRow hb hBg _)
    have hl : (Lib.byteCells t.data.toList).length = t.size := by rw [Lib.byteCells_length]; simp
    show _ = _
    have := setRow_heap w g _ (cur.take off ++ (Lib.byteCells t.data.toList ++ cur.drop (off + t.size))).toArray 5 (0, 0) hg
    unfold splice
    rw [hl]
    exact this
end Go.Proofs.YtmggdnnffdaffaaDoor
