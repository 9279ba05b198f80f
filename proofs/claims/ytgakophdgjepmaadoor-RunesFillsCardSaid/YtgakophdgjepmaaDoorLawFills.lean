/- RunesFills: a pattern with any items. -/
import Derived.Test.YtgakophdgjepmaaDoorRefFill
import Derived.Test.YtgakophdgjepmaaDoorAwake
import Derived.Deep.QuietTactic
import Derived.BigQuiet
namespace Go.Proofs.YtgakophdgjepmaaDoor
open Go.RowKit

/-- A row of strings of the call's own. -/
def SRow (B : Nat) (v : Value) (l : List ByteArray) (w : World) : Prop := w.ownsRow B 9 1 v l.length (l.map Value.string)
theorem SRow.empty (w : World) : SRow w.heap.size (.slice (some ⟨w.heap.size, 0, none⟩) 0 0) [] (w.alloc (.cells #[] 9)) :=
  World.ownsRow_lit w #[] 0 (Nat.le_refl _) (by unfold maxLen; omega) rfl
theorem str_info : (Tryd.prog.info? 9).map (fun i => (i.zero, i.size, i.bytes)) = some (some (.string ⟨#[]⟩), 1, 16) := by kernel_rfl
theorem srow_shape {B : Nat} {v : Value} {l : List ByteArray} {w : World} (h : SRow B v l w) : ∃ g c, v = .slice g l.length c := by
  rcases h.2 with ⟨rfl, h0⟩ | ⟨g, cap, cur, rfl, _⟩
  · exact ⟨none, 0, by rw [h0]⟩
  · exact ⟨_, _, rfl⟩
theorem wp_append_str1 {ops : Array Oper} {rest : List Oper} {o : Oper} {a : Act} {w : World} {Q : Exit → Act → World → Prop} (hgd : o.guard = none) (sl x : Operand)
    (ho : o.op = .call { callee := .builtin .append, args := #[sl, x], argTypes := #[30, 30] }) (B : Nat) (v : Value) (l : List ByteArray) (hs : a.eval sl = v) (h : SRow B v l w) (s : ByteArray)
    (hx : a.eval x = .slice (some ⟨w.heap.size, 0, none⟩) 1 1)
    (hlen : (l.length + 1) * 16 ≤ 140737488355328) (hB : B ≤ w.heap.size)
    (k : ∀ v' w', SRow B v' (l ++ [s]) w' → Below B w w' → wpList Tryd.prog ops Q rest (a.put o.dst v') w') : wpList Tryd.prog ops Q (o :: rest) a (w.alloc (.cells #[.string s] 9)) := by
  obtain ⟨i0, hi, hz0, hz1, hz2⟩ := info_parts str_info
  refine wpList_append_own _ hgd sl x 30 ho B 9 i0 (.string ⟨#[]⟩) 1 16 Tryd.underlying30 hi hz0 hz1 hz2 rfl (by decide) v l.length _ hs (World.ownsRow.alloc h _) ⟨w.heap.size, 0, none⟩ 1 1 [.string s] hx rfl ?_ ?_ (by unfold maxLen; omega) hlen (by simp; omega) fun v' w' h1 h2 _ => ?_
  · intro j u hj
    match j, hj with
    | 0, hj => simp at hj; subst hj; simp [Addr.add]
  · intro u hu; simp at hu; subst hu; rfl
  · refine k v' w' ?_ (((Below.refl B w).alloc hB _).grown h2 (by simp; omega) (fun j hj => (World.ownsRow.lt h j hj).1))
    unfold SRow
    rw [List.length_append, List.map_append]
    exact h1
/-- A row of the call's own reads as its strings. -/
theorem srow_strs {B C : Nat} {v : Value} {l : List ByteArray} {w : World} (h : SRow B v l w) (hm : l.length ≤ maxLen) (hC : w.heap.size ≤ C) : Strs C w v l := by
  rcases h.2 with ⟨rfl, h0⟩ | ⟨g, cap, cur, rfl, hB, hg, hn, hmx, hsz, htake⟩
  · exact ⟨none, 0, by rw [h0], hm, fun j hj => by omega⟩
  · refine ⟨_, cap, rfl, hm, fun j hj => ⟨g, 0, rfl, Nat.lt_of_lt_of_le (Array.getElem?_eq_some_iff.1 hg).1 hC, ?_⟩⟩
    rw [Nat.zero_add, cell_of_row w g j _ _ _ hg]
    have e : cur.toList[j]? = (l.map Value.string)[j]? := by
      rw [← htake, List.getElem?_take, if_pos (by omega)]
    rw [← Array.getElem?_toList, e, List.getElem?_map, List.getD_eq_getElem?_getD, List.getElem?_eq_getElem hj]
    rfl

/-- The first items of a list, and one more. -/
theorem take_more (l : List ByteArray) (k : Nat) (h : k < l.length) : l.take (k + 1) = l.take k ++ [l.getD k ByteArray.empty] := by
  rw [List.take_succ_eq_append_getElem h, List.getD_eq_getElem?_getD, List.getElem?_eq_getElem h]
  rfl

theorem Strs.mono {B C : Nat} {w : World} {v : Value} {ss : List ByteArray} (h : Strs B w v ss) (hBC : B ≤ C) : Strs C w v ss := by
  obtain ⟨a, cap, hv, hm, hc⟩ := h
  refine ⟨a, cap, hv, hm, fun j hj => ?_⟩
  obtain ⟨b, off, ha, hb1, hc1⟩ := hc j hj
  exact ⟨b, off, ha, by omega, hc1⟩
theorem Strs.at {B : Nat} {w : World} {a : Option Addr} {n cap : Nat} {ss : List ByteArray} (h : Strs B w (.slice a n cap) ss) (j : Nat) (hj : j < ss.length) : ∃ b off, a = some ⟨b, off, none⟩ ∧ b < B ∧ w.cell? ⟨b, off + j, none⟩ = some (.string (ss.getD j ByteArray.empty)) := by
  obtain ⟨a', cap', hv, _, hc⟩ := h
  simp only [Value.slice.injEq] at hv
  rw [hv.1]
  exact hc j hj
/-- Fill's two answers. -/
def fillS (p : ByteArray) (ss : List ByteArray) : ByteArray := ⟨(fillR p ss).1.toArray⟩
def fillE (p : ByteArray) (ss : List ByteArray) : Int := (fillR p ss).2
theorem fill_two (p : ByteArray) (ss : List ByteArray) (iv : Value) (w : World) (hs : p.size ≤ maxLen) (h : Strs w.heap.size w iv ss) :
    Calls Tryd.prog 29 #[.string p, iv] w fun e w' => e = .returned (.tuple #[.string (fillS p ss), .int .i64 (fillE p ss)]) ∧ Below w.heap.size w w' := fill_any p ss iv w hs h
theorem refFill_two (p : ByteArray) (ss : List ByteArray) (iv : Value) (w : World) (hs : p.size ≤ maxLen) (h : Strs w.heap.size w iv ss) :
    Calls Tryd.prog 30 #[.string p, iv] w fun e w' => e = .returned (.tuple #[.string (fillS p ss), .int .i64 (fillE p ss)]) ∧ Below w.heap.size w w' := refFill_any p ss iv w hs h

set_option maxHeartbeats 4000000 in
set_option maxRecDepth 100000 in
theorem fills_walk (p : ByteArray) (ss : List ByteArray) (iv : Value) (w : World) (hs : p.size ≤ maxLen) (h : Strs w.heap.size w iv ss) (hr : ss.length * 16 + 16 ≤ 140737488355328) (hT : TabW w) :
    Calls Tryd.prog 11 #[.string p, iv] w fun e w' => e = .returned (.bool true) ∧ Below w.heap.size w w' := by
  have HST := Lib.hid h
  obtain ⟨a, cap, hiv, hm, hcells⟩ := h
  subst hiv
  have HT := Lib.hid hT
  have HP := Lib.hid hs
  have HC := Lib.hid hcells
  have HMX := Lib.hid hm
  clear hcells hT hs hm
  go_enter Tryd.func11, Tryd.ntmps11
  go_wp2
  go_loopw [5, 6] (fun v i wr => ∃ k : Nat, i = .int .i64 k ∧ k ≤ ss.length ∧ SRow w.heap.size v (ss.take k) wr ∧ Below w.heap.size w wr) (fun _ i _ => ss.length - (intOf i).toNat)
  case atStart => exact ⟨0, rfl, by omega, SRow.empty w, (Below.refl _ w).alloc (Nat.le_refl _) _⟩
  case round =>
    obtain ⟨k, rfl, hk, hrow, hbw⟩ := hrel
    have HR := Lib.hid hrow
    have hsz := hbw.size
    clear hrow
    by_cases hlt : k < ss.length
    · obtain ⟨b, off, rfl, hbB, hcell0⟩ := HC.out k hlt
      have hcell := (hbw.cell (p := ⟨b, off + k, none⟩) hbB).trans hcell0
      clear hcell0
      have htm := take_more ss k hlt
      generalize ss.getD k ByteArray.empty = x at hcell htm
      have HTM := Lib.hid htm
      clear htm
      go_wp2_with (at_builtin; go_loud (refine wp_append_str1 (w := wr) rfl _ _ rfl w.heap.size u5 (ss.take k) rfl HR.out x rfl ?c1 ?c2 ?_))
      case c1 => rw [List.length_take]; omega
      case c2 => omega
      intro v' w' hrow' hb'
      rw [← HTM.out] at hrow'
      go_wp2
      go_roundw
      case rel => exact ⟨k + 1, by go_num, by omega, hrow', hbw.trans hb'⟩
      case measure => simp [intOf]; omega
    · have hall : ss.take k = ss := List.take_of_length_le (by omega)
      have HR2 : Hid (SRow w.heap.size u5 ss wr) := by rw [← hall]; exact HR.out
      clear hall HR
      have HS1 := Lib.hid (srow_strs HR2.out HMX.out (Nat.le_refl _))
      obtain ⟨g5, c5, rfl⟩ := srow_shape HR2.out
      have q0 : ((fillS p ss).toList == (fillS p ss).toList) = true := beq_self_eq_true _
      have q1 : (fillE p ss == fillE p ss) = true := beq_self_eq_true _
      go_wp2_with fail
      refine (fill_two p ss _ _ HP.out HS1.out).mono ?_
      rintro e W1 ⟨rfl, b1⟩
      have hs1 := b1.size
      have HS2 := Lib.hid (((HST.out.below hbw (Nat.le_refl _)).below b1 hsz).mono (show w.heap.size ≤ W1.heap.size by omega))
      have HS3 := Lib.hid (HS1.out.below b1 (Nat.le_refl _))
      go_wp2_with fail
      refine (refFill_two p ss _ _ HP.out HS2.out).mono ?_
      rintro e W2 ⟨rfl, b2⟩
      have hs2 := b2.size
      have HS4 := Lib.hid (HS2.out.below b2 (Nat.le_refl _))
      have HS5 := Lib.hid ((HS3.out.below b2 hs1).mono hs1)
      have hb2 : Below w.heap.size w W2 := hbw.trans ((b1.mono hsz).trans (b2.mono (by omega)))
      clear b1 b2 hbw HS1 HS2 HS3 HR2
      go_wp2
      go_loopw [11] (fun i wx => ∃ k : Nat, i = .int .i64 k ∧ k ≤ ss.length ∧ Below W2.heap.size W2 wx) (fun i _ => ss.length - (intOf i).toNat)
      case atStart => exact ⟨0, rfl, by omega, Below.refl _ _⟩
      case round =>
        obtain ⟨k2, rfl, hk2, hbx⟩ := hrel
        by_cases hlt2 : k2 < ss.length
        · obtain ⟨b, off, rfl, hbB, hcell0⟩ := HS4.out.at k2 hlt2
          obtain ⟨b', off', rfl, hbB', hcell0'⟩ := HS5.out.at k2 hlt2
          have hcell := (hbx.cell (p := ⟨b, off + k2, none⟩) (by show b < W2.heap.size; omega)).trans hcell0
          have hcell' := (hbx.cell (p := ⟨b', off' + k2, none⟩) (by show b' < W2.heap.size; omega)).trans hcell0'
          clear hcell0 hcell0'
          generalize ss.getD k2 ByteArray.empty = x at hcell hcell'
          have qx : (x.toList == x.toList) = true := beq_self_eq_true _
          go_wp2
          go_quiet (fail)
          go_wp2
          go_roundw
          case rel => exact ⟨k2 + 1, by go_num, by omega, below_drewN hbx _⟩
          case measure => simp [intOf]; omega
        · go_wp2_with (go_at_call 16; refine (awake_any _ ((HT.out.below hb2 (Nat.le_refl _)).below hbx (by omega))).mono ?_)
          rintro e W3 ⟨rfl, b3⟩
          have hsx := hbx.size
          go_wp2
          go_ret
          exact ⟨rfl, hb2.trans ((hbx.mono (by omega)).trans (b3.mono (by omega)))⟩
end Go.Proofs.YtgakophdgjepmaaDoor
