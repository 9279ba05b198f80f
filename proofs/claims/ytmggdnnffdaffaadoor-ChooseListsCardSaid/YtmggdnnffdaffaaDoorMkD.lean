/- Merged: DOf, OpS, OqA, OqB, OqC, OpW, OqD, OqE. -/
import Derived.Test.YtmggdnnffdaffaaDoorDSum
import Derived.Lib.EndianBits
import Derived.Test.YtmggdnnffdaffaaDoorOpG
import Derived.Test.YtmggdnnffdaffaaDoorMgB
import Derived.Test.YtmggdnnffdaffaaDoorDRefPad
import Derived.Test.YtmggdnnffdaffaaDoorOpT
import Derived.Test.YtmggdnnffdaffaaDoorDDiv
import Derived.Test.YtmggdnnffdaffaaDoorOpV
namespace Go.Proofs.YtmggdnnffdaffaaDoor
section
open Go.RowKit
attribute [local go_sem ↓] Go.wp_at_zero Go.wp_at_succ

def Blk8 (w : World) (g : Nat) (cs : List Value) : Prop := w.heap[g]? = some (.cells cs.toArray 106 (0, 0))
theorem Blk8.cell {w : World} {g : Nat} {cs : List Value} (h : Blk8 w g cs) (i : Nat) : w.cell? ⟨g, i, none⟩ = cs[i]? := by
  rw [cell_of_row w g i _ _ (0, 0) h]; simp
theorem Blk8.frozen {w : World} {g : Nat} {cs : List Value} (h : Blk8 w g cs) (i : Nat) : w.frozen? ⟨g, i, none⟩ = false := by
  unfold Blk8 at h
  simp [World.frozen?, h]
theorem Blk8.new (w : World) (cs : List Value) (a : Array Value) (ha : a = cs.toArray) : Blk8 (w.alloc (.cells a 106)) w.heap.size cs := by rw [ha]; exact heap_alloc_new w _
theorem Blk8.set_ {w : World} {g : Nat} {cs : List Value} (h : Blk8 w g cs) (i : Nat) (u : Value) : Blk8 (w.setCell ⟨g, i, none⟩ u) g (cs.set i u) := by
  unfold Blk8 at h ⊢
  simp [World.setCell, Array.getElem?_modify, h]
theorem run_string8 (w : World) (g off n cap : Nat) (Q : List Nat) (S : ByteArray) (hS : S = dStr Q) (hl : Q.length = n) (hQ : Digs Q) (hc : ∀ j, j < n → w.cell? ⟨g, off + j, none⟩ = (nC (Q.map (48 + ·)))[j]?) :
    (convert 71 9 (.slice (some ⟨g, off, none⟩) n cap)).run Tryd.prog w = .ok (.string S) w := by
  have e : (dB Q).length = n := by rw [dB_len, hl]
  have := run_convert_bytes_back (P := Tryd.prog) w 71 9 5 ⟨g, off, none⟩ cap (dB Q) Tryd.underlying71 Tryd.underlying5 Tryd.underlying9 (by
    intro j hj
    have hj' : j < n := by rw [e] at hj; exact hj
    have hadd : (⟨g, off, none⟩ : Addr).add j = ⟨g, off + j, none⟩ := by unfold Addr.add; split <;> simp_all
    rw [hadd, hc j hj', ← byte_cells_of Q hQ]
    unfold Lib.byteCells
    rw [List.getElem?_map, List.getElem?_eq_getElem hj]
    simp)
  rw [e] at this
  rw [this, hS]
  rfl
theorem sizeOf_byte (W : World) : (sizeOf 5).run Tryd.prog W = .ok 1 W := by
  have h := bytes_size
  go_simp
theorem slice8 (g b l : Nat) (hb : b < 20) (hl : l = 20 - b) (W : World) : (Instr.sliceAt 106 (.pointer (some ⟨g, 0, none⟩)) (some (.int .i64 (b : Int))) none none).run Tryd.prog W = .ok (.slice (some ⟨g, b, none⟩) l l) W := by
  have hal : Program.arrayLen Tryd.prog 106 = 20 := by kernel_rfl
  rw [run_sliceAt_array_l W 106 ⟨g, 0, none⟩ (by kernel_rfl) .i64 (b : Int) (by omega) (by rw [hal]; omega)]
  rw [hal]
  have hel : Program.elem Tryd.prog 106 = 5 := by kernel_rfl
  rw [hel, sizeOf_byte]
  show Result.ok (slicedAt _ _ _ _ _) W = _
  unfold slicedAt
  rw [Int.toNat_natCast, ← hl, if_neg (by omega)]
  simp [Addr.add]
  omega
def dz (v : Nat) : List Nat := if v = 0 then [] else digs v
theorem dz_pos {v : Nat} (h : 0 < v) : dz v = digs v := if_neg (by omega)
theorem dz_step (v : Nat) : digs v = dz (v / 10) ++ [v % 10] := by
  by_cases h : v < 10
  · rw [show v / 10 = 0 by omega, show v % 10 = v by omega]
    unfold digs
    rw [digsR_small h]
    rfl
  · rw [dz_pos (by omega), ← digs_snoc (by omega) (by omega)]
    congr 1
    omega

set_option maxHeartbeats 2000000 in
set_option maxRecDepth 100000 in
theorem of_false (n : Int) (w : World) (hn : 0 ≤ n) (hl : n ≤ 9223372036854775807) :
    Calls Tryd.prog 53 #[.int .i64 n] w fun e w' => e = .returned (.agg #[.bool false, .string (dStr (digs n.natAbs)), .string ⟨#[]⟩]) ∧ Below w.heap.size w w' := by
  obtain ⟨N, hN⟩ : ∃ N : Nat, N = n.natAbs := ⟨_, rfl⟩
  have hNM : N ≤ 9223372036854775808 := by omega
  have v1 : IntKind.u64.wrap n = (N : Int) := by rw [IntKind.wrap_u64]; omega
  have qn : decide (n < 0) = false := decide_eq_false (by omega)
  have hlt : n < 0 ↔ False := by simp; omega
  rw [← hN]
  have L20 : (digs N).length ≤ 20 := (digs_le N 20 (by omega)).2 (by omega)
  have HL20 := Lib.hid L20
  have HB0 := Lib.hid (((Below.refl _ w).alloc (Nat.le_refl _) (.cells #[.bool false, .string ⟨#[]⟩, .string ⟨#[]⟩] 27)).alloc (by simp) (.cells (nC (List.replicate 20 0)).toArray 106))
  have HR0 : Hid (((w.alloc (.cells #[.bool false, .string ⟨#[]⟩, .string ⟨#[]⟩] 27)).alloc (.cells (nC (List.replicate 20 0)).toArray 106)).heap[w.heap.size]? = some (.cells #[.bool false, .string ⟨#[]⟩, .string ⟨#[]⟩] 27 (0, 0))) := by
    show _ = _
    rw [Below.heap_alloc _ _ _ (by simp)]
    exact heap_alloc_new w _
  have K0 : Hid (Blk8 ((w.alloc (.cells #[.bool false, .string ⟨#[]⟩, .string ⟨#[]⟩] 27)).alloc (.cells (nC (List.replicate 20 0)).toArray 106)) (w.heap.size + 1) (nC (List.replicate 20 0))) := by
    have := Blk8.new (w.alloc (.cells #[.bool false, .string ⟨#[]⟩, .string ⟨#[]⟩] 27)) (nC (List.replicate 20 0)) _ rfl
    rw [show (w.alloc (.cells #[.bool false, .string ⟨#[]⟩, .string ⟨#[]⟩] 27)).heap.size = w.heap.size + 1 by simp] at this
    exact this
  clear hN hl L20
  go_enter Tryd.func53, Tryd.ntmps53
  go_wp2
  go_loopw [3, 5] (fun sz i wr => ∃ (b v : Nat) (ds : List Nat), i = .int .i64 (b : Int) ∧ sz = .int .u64 (v : Int) ∧ b + ds.length = 20 ∧ (ds.length = 0 → v = N ∧ ds = []) ∧ (1 ≤ ds.length → digs N = dz v ++ ds) ∧ v ≤ 18446744073709551615 ∧ Blk8 wr (w.heap.size + 1) (nC (List.replicate b 0 ++ ds.map (48 + ·))) ∧ Below w.heap.size w wr ∧ wr.heap[w.heap.size]? = some (.cells #[.bool false, .string ⟨#[]⟩, .string ⟨#[]⟩] 27 (0, 0))) (fun _ i _ => (intOf i).toNat)
  case atStart => exact ⟨20, N, [], rfl, rfl, rfl, fun _ => ⟨rfl, rfl⟩, fun h => absurd h (by simp), by omega, K0.out, HB0.out, HR0.out⟩
  case round =>
    obtain ⟨b, v, ds, rfl, rfl, hbl, hz, hs, hvM, hB, hbw, hR⟩ := hrel
    have HBL := Lib.hid hbl
    have HZ := Lib.hid hz
    have HS := Lib.hid hs
    have HB := Lib.hid hB
    have hf := fun i => hB.frozen i
    have HW := Lib.hid hbw
    have HR := Lib.hid hR
    have hb20 : b ≤ 20 := by omega
    clear hbl hz hs hB hbw hR
    by_cases hgo : b = 20 ∨ 0 < v
    · have hb0 : 0 < b := by
        rcases hgo with h | h
        · omega
        · have := HBL.out
          by_cases e : 1 ≤ ds.length
          · have h2 := congrArg List.length (HS.out e)
            rw [List.length_append, dz_pos h] at h2
            have h3 := digs_len v
            have h4 := HL20.out
            omega
          · omega
      obtain ⟨m, rfl⟩ : ∃ m, b = m + 1 := ⟨b - 1, by omega⟩
      obtain ⟨r, hr⟩ : ∃ r, r = v % 10 := ⟨_, rfl⟩
      obtain ⟨t, ht⟩ : ∃ t, t = v / 10 := ⟨_, rfl⟩
      have HSTEP : Hid (digs N = dz t ++ r :: ds) := by
        show _ = _
        rw [hr, ht]
        by_cases e : 1 ≤ ds.length
        · have h0 : 0 < v := by
            rcases hgo with h | h
            · have := HBL.out; omega
            · exact h
          rw [HS.out e, dz_pos h0, dz_step v]
          simp
        · obtain ⟨e1, e2⟩ := HZ.out (by omega)
          rw [e2, ← e1]
          exact dz_step v
      have hr9 : r ≤ 9 := by omega
      have ht1 : t ≤ 1844674407370955161 := by omega
      have d1 : (v : Int).tmod 10 = (r : Int) := by rw [Int.tmod_eq_emod_of_nonneg (by omega)]; omega
      have d2 : (v : Int).tdiv 10 = (t : Int) := by rw [Int.tdiv_eq_ediv_of_nonneg (by omega)]; omega
      have d3 : v % 10 = r := hr.symm
      have d4 : v / 10 = t := ht.symm
      have d5 : (v : Int) % 10 = (r : Int) := by omega
      have d6 : (v : Int) / 10 = (t : Int) := by omega
      have c2 : wr.cell? ⟨w.heap.size + 1, m, none⟩ = some (.int .u8 ((0 : Nat) : Int)) := by
        rw [HB.out.cell, nC_get _ _ (by simp; omega), List.replicate_succ', List.append_assoc, List.singleton_append, get_mid _ _ _ _ (by simp)]
      have HHR := Lib.hid hr
      have HHT := Lib.hid ht
      clear hr ht
      have wr1 : IntKind.u8.wrap (r : Int) = r := IntWalk.u8_in _ (by omega)
      have hq : m = 19 ∨ m ≠ 19 ∧ 0 < v := by omega
      clear hgo
      rcases hq with hm | ⟨hm, hv⟩
      · have q1 : (((m : Int) + 1) == 20) = true := by simp; omega
        have HM := Lib.hid hm
        clear hm
        go_wp2
        go_roundw
        case rel =>
          refine ⟨m, t, r :: ds, rfl, by go_num, by have := HBL.out; rw [List.length_cons]; omega, ?_, fun _ => HSTEP.out, by omega, ?_, ?_, ?_⟩
          · intro h; exact absurd h (by simp)
          · have := HB.out.set_ m (.int .u8 ((48 + r : Nat) : Int))
            rw [nC_set, List.replicate_succ', List.append_assoc, List.singleton_append, set_mid _ _ _ _ _ (by simp)] at this
            exact this
          · exact HW.out.setCell (p := ⟨w.heap.size + 1, m, none⟩) (Nat.le_succ _) _
          · rw [Below.heap_setCell _ _ _ _ (by show w.heap.size ≠ w.heap.size + 1; omega)]
            exact HR.out
        case measure => simp [intOf]
      · have q1 : (((m : Int) + 1) == 20) = false := by rw [beq_eq_false_iff_ne]; omega
        have HM := Lib.hid hm
        clear hm
        go_wp2
        go_roundw
        case rel =>
          refine ⟨m, t, r :: ds, rfl, by go_num, by have := HBL.out; rw [List.length_cons]; omega, ?_, fun _ => HSTEP.out, by omega, ?_, ?_, ?_⟩
          · intro h; exact absurd h (by simp)
          · have := HB.out.set_ m (.int .u8 ((48 + r : Nat) : Int))
            rw [nC_set, List.replicate_succ', List.append_assoc, List.singleton_append, set_mid _ _ _ _ _ (by simp)] at this
            exact this
          · exact HW.out.setCell (p := ⟨w.heap.size + 1, m, none⟩) (Nat.le_succ _) _
          · rw [Below.heap_setCell _ _ _ _ (by show w.heap.size ≠ w.heap.size + 1; omega)]
            exact HR.out
        case measure => simp [intOf]
    · have hv0 : v = 0 := by omega
      subst hv0
      have q1 : ((b : Int) == 20) = false := by rw [beq_eq_false_iff_ne]; omega
      have HD : Hid (digs N = ds) := by
        show _ = _
        rw [HS.out (by have := HBL.out; omega)]
        rfl
      have HDD : Hid (Digs ds) := by have := digs_digs N; rw [HD.out] at this; exact this
      obtain ⟨S, hS⟩ : ∃ S, S = dStr ds := ⟨_, rfl⟩
      have HS1 := Lib.hid hS
      obtain ⟨l, hl⟩ : ∃ l, l = 20 - b := ⟨_, rfl⟩
      have hlb : (20 : Int) - (b : Int) = (l : Int) := by omega
      have kc := run_string8 wr (w.heap.size + 1) b l l ds S hS (by have := HBL.out; omega) HDD.out (fun j hj => by
        rw [HB.out.cell, nC_append, List.getElem?_append_right (by rw [nC_len]; simp), nC_len]
        simp)
      have r0 : wr.cell? ⟨w.heap.size, 0, none⟩ = some (.bool false) := by rw [cell_of_row wr w.heap.size 0 _ _ _ HR.out]; rfl
      have r1 : wr.cell? ⟨w.heap.size, 1, none⟩ = some (.string ⟨#[]⟩) := by rw [cell_of_row wr w.heap.size 1 _ _ _ HR.out]; rfl
      have r2 : wr.cell? ⟨w.heap.size, 2, none⟩ = some (.string ⟨#[]⟩) := by rw [cell_of_row wr w.heap.size 2 _ _ _ HR.out]; rfl
      have z0 : ∀ i, wr.frozen? ⟨w.heap.size, i, none⟩ = false := fun i => by simp [World.frozen?, HR.out]
      obtain ⟨e0, e1, e2⟩ := res_cells r0 r1 r2 (.bool false) (.string S) (.string ⟨#[]⟩)
      have hlt2 : w.heap.size < wr.heap.size := by have := HW.out.size; rcases Nat.lt_or_ge w.heap.size wr.heap.size with h | h; exact h; have h2 := HR.out; rw [Array.getElem?_eq_none h] at h2; cases h2
      have HBl := Lib.hid (res_below HW.out (Nat.le_refl _) (.bool false) (.string S) (.string ⟨#[]⟩))
      have hsl := slice8 (w.heap.size + 1) b l (by have := HBL.out; omega) hl
      have HL := Lib.hid hl
      clear hS hl hgo
      go_wp2
      exact bodyPost_ret (v := .agg #[.bool false, .string S, .string ⟨#[]⟩]) (by simp [results, Tryd.results53, go_sem, e0, e1, e2]) rfl ⟨by rw [HD.out, HS1.out], HBl.out⟩

set_option maxHeartbeats 2000000 in
set_option maxRecDepth 100000 in
theorem of_true (n : Int) (w : World) (hn : n < 0) (hl : -9223372036854775808 ≤ n) :
    Calls Tryd.prog 53 #[.int .i64 n] w fun e w' => e = .returned (.agg #[.bool true, .string (dStr (digs n.natAbs)), .string ⟨#[]⟩]) ∧ Below w.heap.size w w' := by
  obtain ⟨N, hN⟩ : ∃ N : Nat, N = n.natAbs := ⟨_, rfl⟩
  have hNM : N ≤ 9223372036854775808 := by omega
  have v1 : IntKind.u64.wrap (-(IntKind.u64.wrap n)) = (N : Int) := by rw [IntKind.wrap_u64, IntKind.wrap_u64]; omega
  have qn : decide (n < 0) = true := decide_eq_true hn
  have hlt : n < 0 ↔ True := by simp [hn]
  rw [← hN]
  have L20 : (digs N).length ≤ 20 := (digs_le N 20 (by omega)).2 (by omega)
  have HL20 := Lib.hid L20
  have HB0 := Lib.hid (((Below.refl _ w).alloc (Nat.le_refl _) (.cells #[.bool false, .string ⟨#[]⟩, .string ⟨#[]⟩] 27)).alloc (by simp) (.cells (nC (List.replicate 20 0)).toArray 106))
  have HR0 : Hid (((w.alloc (.cells #[.bool false, .string ⟨#[]⟩, .string ⟨#[]⟩] 27)).alloc (.cells (nC (List.replicate 20 0)).toArray 106)).heap[w.heap.size]? = some (.cells #[.bool false, .string ⟨#[]⟩, .string ⟨#[]⟩] 27 (0, 0))) := by
    show _ = _
    rw [Below.heap_alloc _ _ _ (by simp)]
    exact heap_alloc_new w _
  have K0 : Hid (Blk8 ((w.alloc (.cells #[.bool false, .string ⟨#[]⟩, .string ⟨#[]⟩] 27)).alloc (.cells (nC (List.replicate 20 0)).toArray 106)) (w.heap.size + 1) (nC (List.replicate 20 0))) := by
    have := Blk8.new (w.alloc (.cells #[.bool false, .string ⟨#[]⟩, .string ⟨#[]⟩] 27)) (nC (List.replicate 20 0)) _ rfl
    rw [show (w.alloc (.cells #[.bool false, .string ⟨#[]⟩, .string ⟨#[]⟩] 27)).heap.size = w.heap.size + 1 by simp] at this
    exact this
  clear hN hl L20
  go_enter Tryd.func53, Tryd.ntmps53
  go_wp2
  go_loopw [3, 5] (fun sz i wr => ∃ (b v : Nat) (ds : List Nat), i = .int .i64 (b : Int) ∧ sz = .int .u64 (v : Int) ∧ b + ds.length = 20 ∧ (ds.length = 0 → v = N ∧ ds = []) ∧ (1 ≤ ds.length → digs N = dz v ++ ds) ∧ v ≤ 18446744073709551615 ∧ Blk8 wr (w.heap.size + 1) (nC (List.replicate b 0 ++ ds.map (48 + ·))) ∧ Below w.heap.size w wr ∧ wr.heap[w.heap.size]? = some (.cells #[.bool false, .string ⟨#[]⟩, .string ⟨#[]⟩] 27 (0, 0))) (fun _ i _ => (intOf i).toNat)
  case atStart => exact ⟨20, N, [], rfl, rfl, rfl, fun _ => ⟨rfl, rfl⟩, fun h => absurd h (by simp), by omega, K0.out, HB0.out, HR0.out⟩
  case round =>
    obtain ⟨b, v, ds, rfl, rfl, hbl, hz, hs, hvM, hB, hbw, hR⟩ := hrel
    have HBL := Lib.hid hbl
    have HZ := Lib.hid hz
    have HS := Lib.hid hs
    have HB := Lib.hid hB
    have hf := fun i => hB.frozen i
    have HW := Lib.hid hbw
    have HR := Lib.hid hR
    have hb20 : b ≤ 20 := by omega
    clear hbl hz hs hB hbw hR
    by_cases hgo : b = 20 ∨ 0 < v
    · have hb0 : 0 < b := by
        rcases hgo with h | h
        · omega
        · have := HBL.out
          by_cases e : 1 ≤ ds.length
          · have h2 := congrArg List.length (HS.out e)
            rw [List.length_append, dz_pos h] at h2
            have h3 := digs_len v
            have h4 := HL20.out
            omega
          · omega
      obtain ⟨m, rfl⟩ : ∃ m, b = m + 1 := ⟨b - 1, by omega⟩
      obtain ⟨r, hr⟩ : ∃ r, r = v % 10 := ⟨_, rfl⟩
      obtain ⟨t, ht⟩ : ∃ t, t = v / 10 := ⟨_, rfl⟩
      have HSTEP : Hid (digs N = dz t ++ r :: ds) := by
        show _ = _
        rw [hr, ht]
        by_cases e : 1 ≤ ds.length
        · have h0 : 0 < v := by
            rcases hgo with h | h
            · have := HBL.out; omega
            · exact h
          rw [HS.out e, dz_pos h0, dz_step v]
          simp
        · obtain ⟨e1, e2⟩ := HZ.out (by omega)
          rw [e2, ← e1]
          exact dz_step v
      have hr9 : r ≤ 9 := by omega
      have ht1 : t ≤ 1844674407370955161 := by omega
      have d1 : (v : Int).tmod 10 = (r : Int) := by rw [Int.tmod_eq_emod_of_nonneg (by omega)]; omega
      have d2 : (v : Int).tdiv 10 = (t : Int) := by rw [Int.tdiv_eq_ediv_of_nonneg (by omega)]; omega
      have d3 : v % 10 = r := hr.symm
      have d4 : v / 10 = t := ht.symm
      have d5 : (v : Int) % 10 = (r : Int) := by omega
      have d6 : (v : Int) / 10 = (t : Int) := by omega
      have c2 : wr.cell? ⟨w.heap.size + 1, m, none⟩ = some (.int .u8 ((0 : Nat) : Int)) := by
        rw [HB.out.cell, nC_get _ _ (by simp; omega), List.replicate_succ', List.append_assoc, List.singleton_append, get_mid _ _ _ _ (by simp)]
      have HHR := Lib.hid hr
      have HHT := Lib.hid ht
      clear hr ht
      have wr1 : IntKind.u8.wrap (r : Int) = r := IntWalk.u8_in _ (by omega)
      have hq : m = 19 ∨ m ≠ 19 ∧ 0 < v := by omega
      clear hgo
      rcases hq with hm | ⟨hm, hv⟩
      · have q1 : (((m : Int) + 1) == 20) = true := by simp; omega
        have HM := Lib.hid hm
        clear hm
        go_wp2
        go_roundw
        case rel =>
          refine ⟨m, t, r :: ds, rfl, by go_num, by have := HBL.out; rw [List.length_cons]; omega, ?_, fun _ => HSTEP.out, by omega, ?_, ?_, ?_⟩
          · intro h; exact absurd h (by simp)
          · have := HB.out.set_ m (.int .u8 ((48 + r : Nat) : Int))
            rw [nC_set, List.replicate_succ', List.append_assoc, List.singleton_append, set_mid _ _ _ _ _ (by simp)] at this
            exact this
          · exact HW.out.setCell (p := ⟨w.heap.size + 1, m, none⟩) (Nat.le_succ _) _
          · rw [Below.heap_setCell _ _ _ _ (by show w.heap.size ≠ w.heap.size + 1; omega)]
            exact HR.out
        case measure => simp [intOf]
      · have q1 : (((m : Int) + 1) == 20) = false := by rw [beq_eq_false_iff_ne]; omega
        have HM := Lib.hid hm
        clear hm
        go_wp2
        go_roundw
        case rel =>
          refine ⟨m, t, r :: ds, rfl, by go_num, by have := HBL.out; rw [List.length_cons]; omega, ?_, fun _ => HSTEP.out, by omega, ?_, ?_, ?_⟩
          · intro h; exact absurd h (by simp)
          · have := HB.out.set_ m (.int .u8 ((48 + r : Nat) : Int))
            rw [nC_set, List.replicate_succ', List.append_assoc, List.singleton_append, set_mid _ _ _ _ _ (by simp)] at this
            exact this
          · exact HW.out.setCell (p := ⟨w.heap.size + 1, m, none⟩) (Nat.le_succ _) _
          · rw [Below.heap_setCell _ _ _ _ (by show w.heap.size ≠ w.heap.size + 1; omega)]
            exact HR.out
        case measure => simp [intOf]
    · have hv0 : v = 0 := by omega
      subst hv0
      have q1 : ((b : Int) == 20) = false := by rw [beq_eq_false_iff_ne]; omega
      have HD : Hid (digs N = ds) := by
        show _ = _
        rw [HS.out (by have := HBL.out; omega)]
        rfl
      have HDD : Hid (Digs ds) := by have := digs_digs N; rw [HD.out] at this; exact this
      obtain ⟨S, hS⟩ : ∃ S, S = dStr ds := ⟨_, rfl⟩
      have HS1 := Lib.hid hS
      obtain ⟨l, hl⟩ : ∃ l, l = 20 - b := ⟨_, rfl⟩
      have hlb : (20 : Int) - (b : Int) = (l : Int) := by omega
      have kc := run_string8 wr (w.heap.size + 1) b l l ds S hS (by have := HBL.out; omega) HDD.out (fun j hj => by
        rw [HB.out.cell, nC_append, List.getElem?_append_right (by rw [nC_len]; simp), nC_len]
        simp)
      have r0 : wr.cell? ⟨w.heap.size, 0, none⟩ = some (.bool false) := by rw [cell_of_row wr w.heap.size 0 _ _ _ HR.out]; rfl
      have r1 : wr.cell? ⟨w.heap.size, 1, none⟩ = some (.string ⟨#[]⟩) := by rw [cell_of_row wr w.heap.size 1 _ _ _ HR.out]; rfl
      have r2 : wr.cell? ⟨w.heap.size, 2, none⟩ = some (.string ⟨#[]⟩) := by rw [cell_of_row wr w.heap.size 2 _ _ _ HR.out]; rfl
      have z0 : ∀ i, wr.frozen? ⟨w.heap.size, i, none⟩ = false := fun i => by simp [World.frozen?, HR.out]
      obtain ⟨e0, e1, e2⟩ := res_cells r0 r1 r2 (.bool true) (.string S) (.string ⟨#[]⟩)
      have hlt2 : w.heap.size < wr.heap.size := by have := HW.out.size; rcases Nat.lt_or_ge w.heap.size wr.heap.size with h | h; exact h; have h2 := HR.out; rw [Array.getElem?_eq_none h] at h2; cases h2
      have HBl := Lib.hid (res_below HW.out (Nat.le_refl _) (.bool true) (.string S) (.string ⟨#[]⟩))
      have hsl := slice8 (w.heap.size + 1) b l (by have := HBL.out; omega) hl
      have HL := Lib.hid hl
      clear hS hl hgo
      go_wp2
      exact bodyPost_ret (v := .agg #[.bool true, .string S, .string ⟨#[]⟩]) (by simp [results, Tryd.results53, go_sem, e0, e1, e2]) rfl ⟨by rw [HD.out, HS1.out], HBl.out⟩
end
section
open Go.RowKit
attribute [local go_sem ↓] Go.wp_at_zero Go.wp_at_succ

set_option maxHeartbeats 4000000 in
set_option maxRecDepth 100000 in
theorem get_no (on : Bool) (oi oj oI : ByteArray) (oV oW : Int) (oG oT : ByteArray) (oX : Int) (L : ByteArray)
    (H1 : ∀ wx : World, Calls Tryd.prog 21 #[.agg #[.bool on, .string oi, .string oj, .string oI, .int .i64 oV, .int .i64 oW, .string oG, .string oT, .int .i64 oX]] wx fun e w' => e = .returned (.int .i64 40) ∧ Below wx.heap.size wx w') (w : World) :
    Calls Tryd.prog 42 #[.agg #[.bool on, .string oi, .string oj, .string oI, .int .i64 oV, .int .i64 oW, .string oG, .string oT, .int .i64 oX], .string L] w fun e w' => e = .returned (.tuple #[.agg #[.bool false, .string ⟨#[]⟩, .string ⟨#[]⟩], .int .i64 40]) ∧ Below w.heap.size w w' := by
  have DC := Lib.hid H1
  clear H1
  go_enter Tryd.func42, Tryd.ntmps42
  go_wp2_with fail
  obtain ⟨W2, hW2⟩ : ∃ W2, W2 = (w.alloc (.cells #[.bool on, .string oi, .string oj, .string oI, .int .i64 oV, .int .i64 oW, .string oG, .string oT, .int .i64 oX] 30)).alloc (.cells #[.bool false, .string ⟨#[]⟩, .string ⟨#[]⟩] 27) := ⟨_, rfl⟩
  obtain ⟨hb2, hz2, CA, CR, FR⟩ := ops_dec w (.bool on) (.string oi) (.string oj) (.string oI) (.int .i64 oV) (.int .i64 oW) (.string oG) (.string oT) (.int .i64 oX) 30 27
  rw [← hW2] at hb2 hz2 CA CR FR ⊢
  clear hW2
  (with_reducible refine (DC.out _).mono ?_)
  rintro e W3 ⟨rfl, hb3⟩
  have CA3 := CA.keep hb3 (by omega)
  have CR3 := Lib.hid (CR.keep hb3 (by omega))
  have FR3 := Lib.hid (frozen_keep FR hb3 (by omega))
  have hz3 : w.heap.size + 2 ≤ W3.heap.size := by have := hb3.size; omega
  have B3 := Lib.hid (hb2.trans (hb3.mono hb2.size))
  clear hb3 hb2 CA CR FR hz2
  obtain ⟨a0, a1, a2, a3, a4, a5, a6, a7, a8⟩ := CA3
  obtain ⟨r0, r1, r2⟩ := CR3.out
  have z0 := FR3.out
  obtain ⟨e0, e1, e2⟩ := res_cells r0 r1 r2 (.bool false) (.string ⟨#[]⟩) (.string ⟨#[]⟩)
  clear a0 a1 a2 a3 a4 a5 a6 a7 a8
  go_wp2
  exact bodyPost_ret (v := .tuple #[.agg #[.bool false, .string ⟨#[]⟩, .string ⟨#[]⟩], .int .i64 40]) (by simp [results, Tryd.results42, go_sem, e0, e1, e2]) rfl ⟨rfl, res_below B3.out (by omega) _ _ _⟩

set_option maxHeartbeats 4000000 in
set_option maxRecDepth 100000 in
theorem get_letter (on : Bool) (oi oj oI : ByteArray) (oV oW : Int) (oG oT : ByteArray) (oX : Int) (L : ByteArray) (qn : (L.toList == [110]) = false) (qi : (L.toList == [105]) = false) (qv : (L.toList == [118]) = false) (qw : (L.toList == [119]) = false) (qf : (L.toList == [102]) = false) (qt : (L.toList == [116]) = false) (qc : (L.toList == [99]) = false) (qe : (L.toList == [101]) = false)
    (H1 : ∀ wx : World, Calls Tryd.prog 21 #[.agg #[.bool on, .string oi, .string oj, .string oI, .int .i64 oV, .int .i64 oW, .string oG, .string oT, .int .i64 oX]] wx fun e w' => e = .returned (.int .i64 0) ∧ Below wx.heap.size wx w') (w : World) :
    Calls Tryd.prog 42 #[.agg #[.bool on, .string oi, .string oj, .string oI, .int .i64 oV, .int .i64 oW, .string oG, .string oT, .int .i64 oX], .string L] w fun e w' => e = .returned (.tuple #[.agg #[.bool false, .string ⟨#[]⟩, .string ⟨#[]⟩], .int .i64 40]) ∧ Below w.heap.size w w' := by
  have DC := Lib.hid H1
  clear H1
  go_enter Tryd.func42, Tryd.ntmps42
  go_wp2_with fail
  obtain ⟨W2, hW2⟩ : ∃ W2, W2 = (w.alloc (.cells #[.bool on, .string oi, .string oj, .string oI, .int .i64 oV, .int .i64 oW, .string oG, .string oT, .int .i64 oX] 30)).alloc (.cells #[.bool false, .string ⟨#[]⟩, .string ⟨#[]⟩] 27) := ⟨_, rfl⟩
  obtain ⟨hb2, hz2, CA, CR, FR⟩ := ops_dec w (.bool on) (.string oi) (.string oj) (.string oI) (.int .i64 oV) (.int .i64 oW) (.string oG) (.string oT) (.int .i64 oX) 30 27
  rw [← hW2] at hb2 hz2 CA CR FR ⊢
  clear hW2
  (with_reducible refine (DC.out _).mono ?_)
  rintro e W3 ⟨rfl, hb3⟩
  have CA3 := CA.keep hb3 (by omega)
  have CR3 := Lib.hid (CR.keep hb3 (by omega))
  have FR3 := Lib.hid (frozen_keep FR hb3 (by omega))
  have hz3 : w.heap.size + 2 ≤ W3.heap.size := by have := hb3.size; omega
  have B3 := Lib.hid (hb2.trans (hb3.mono hb2.size))
  clear hb3 hb2 CA CR FR hz2
  obtain ⟨a0, a1, a2, a3, a4, a5, a6, a7, a8⟩ := CA3
  obtain ⟨r0, r1, r2⟩ := CR3.out
  have z0 := FR3.out
  obtain ⟨e0, e1, e2⟩ := res_cells r0 r1 r2 (.bool false) (.string ⟨#[]⟩) (.string ⟨#[]⟩)
  clear a0 a1 a2 a3 a4 a5 a6 a7 a8
  go_wp2
  exact bodyPost_ret (v := .tuple #[.agg #[.bool false, .string ⟨#[]⟩, .string ⟨#[]⟩], .int .i64 40]) (by simp [results, Tryd.results42, go_sem, e0, e1, e2]) rfl ⟨rfl, res_below B3.out (by omega) _ _ _⟩

set_option maxHeartbeats 4000000 in
set_option maxRecDepth 100000 in
theorem get_i (on : Bool) (oi oj oI : ByteArray) (oV oW : Int) (oG oT : ByteArray) (oX : Int) (rn : Bool) (ri rf : ByteArray) (c : Int)
    (H1 : ∀ wx : World, Calls Tryd.prog 21 #[.agg #[.bool on, .string oi, .string oj, .string oI, .int .i64 oV, .int .i64 oW, .string oG, .string oT, .int .i64 oX]] wx fun e w' => e = .returned (.int .i64 0) ∧ Below wx.heap.size wx w')
    (H2 : ∀ wx : World, Calls Tryd.prog 52 #[.string oI] wx fun e w' => e = .returned (.tuple #[.agg #[.bool rn, .string ri, .string rf], .int .i64 c]) ∧ Below wx.heap.size wx w') (w : World) :
    Calls Tryd.prog 42 #[.agg #[.bool on, .string oi, .string oj, .string oI, .int .i64 oV, .int .i64 oW, .string oG, .string oT, .int .i64 oX], .string ⟨#[105]⟩] w fun e w' => e = .returned (.tuple #[.agg #[.bool rn, .string ri, .string rf], .int .i64 c]) ∧ Below w.heap.size w w' := by
  have DC := Lib.hid H1
  have DX := Lib.hid H2
  clear H1 H2
  go_enter Tryd.func42, Tryd.ntmps42
  go_wp2_with fail
  obtain ⟨W2, hW2⟩ : ∃ W2, W2 = (w.alloc (.cells #[.bool on, .string oi, .string oj, .string oI, .int .i64 oV, .int .i64 oW, .string oG, .string oT, .int .i64 oX] 30)).alloc (.cells #[.bool false, .string ⟨#[]⟩, .string ⟨#[]⟩] 27) := ⟨_, rfl⟩
  obtain ⟨hb2, hz2, CA, CR, FR⟩ := ops_dec w (.bool on) (.string oi) (.string oj) (.string oI) (.int .i64 oV) (.int .i64 oW) (.string oG) (.string oT) (.int .i64 oX) 30 27
  rw [← hW2] at hb2 hz2 CA CR FR ⊢
  clear hW2
  (with_reducible refine (DC.out _).mono ?_)
  rintro e W3 ⟨rfl, hb3⟩
  have CA3 := CA.keep hb3 (by omega)
  have CR3 := Lib.hid (CR.keep hb3 (by omega))
  have FR3 := Lib.hid (frozen_keep FR hb3 (by omega))
  have hz3 : w.heap.size + 2 ≤ W3.heap.size := by have := hb3.size; omega
  have B3 := Lib.hid (hb2.trans (hb3.mono hb2.size))
  clear hb3 hb2 CA CR FR hz2
  obtain ⟨a0, a1, a2, a3, a4, a5, a6, a7, a8⟩ := CA3
  go_wp2_with fail
  (with_reducible refine (DX.out _).mono ?_)
  rintro e W4 ⟨rfl, hb4⟩
  obtain ⟨r0, r1, r2⟩ := CR3.out.keep hb4 (by omega)
  have z0 := frozen_keep FR3.out hb4 (by omega)
  obtain ⟨e0, e1, e2⟩ := res_cells r0 r1 r2 (.bool rn) (.string ri) (.string rf)
  have B4 := Lib.hid (B3.out.trans (hb4.mono B3.out.size))
  clear hb4
  clear a0 a1 a2 a3 a4 a5 a6 a7 a8
  go_wp2
  exact bodyPost_ret (v := .tuple #[.agg #[.bool rn, .string ri, .string rf], .int .i64 c]) (by simp [results, Tryd.results42, go_sem, e0, e1, e2]) rfl ⟨rfl, res_below B4.out (by omega) _ _ _⟩

set_option maxHeartbeats 4000000 in
set_option maxRecDepth 100000 in
theorem get_f (on : Bool) (oi oj oI : ByteArray) (oV oW : Int) (oG oT : ByteArray) (oX : Int) (rn : Bool) (ri rf : ByteArray) (c : Int)
    (H1 : ∀ wx : World, Calls Tryd.prog 21 #[.agg #[.bool on, .string oi, .string oj, .string oI, .int .i64 oV, .int .i64 oW, .string oG, .string oT, .int .i64 oX]] wx fun e w' => e = .returned (.int .i64 0) ∧ Below wx.heap.size wx w')
    (H2 : ∀ wx : World, Calls Tryd.prog 52 #[.string oG] wx fun e w' => e = .returned (.tuple #[.agg #[.bool rn, .string ri, .string rf], .int .i64 c]) ∧ Below wx.heap.size wx w') (w : World) :
    Calls Tryd.prog 42 #[.agg #[.bool on, .string oi, .string oj, .string oI, .int .i64 oV, .int .i64 oW, .string oG, .string oT, .int .i64 oX], .string ⟨#[102]⟩] w fun e w' => e = .returned (.tuple #[.agg #[.bool rn, .string ri, .string rf], .int .i64 c]) ∧ Below w.heap.size w w' := by
  have DC := Lib.hid H1
  have DX := Lib.hid H2
  clear H1 H2
  go_enter Tryd.func42, Tryd.ntmps42
  go_wp2_with fail
  obtain ⟨W2, hW2⟩ : ∃ W2, W2 = (w.alloc (.cells #[.bool on, .string oi, .string oj, .string oI, .int .i64 oV, .int .i64 oW, .string oG, .string oT, .int .i64 oX] 30)).alloc (.cells #[.bool false, .string ⟨#[]⟩, .string ⟨#[]⟩] 27) := ⟨_, rfl⟩
  obtain ⟨hb2, hz2, CA, CR, FR⟩ := ops_dec w (.bool on) (.string oi) (.string oj) (.string oI) (.int .i64 oV) (.int .i64 oW) (.string oG) (.string oT) (.int .i64 oX) 30 27
  rw [← hW2] at hb2 hz2 CA CR FR ⊢
  clear hW2
  (with_reducible refine (DC.out _).mono ?_)
  rintro e W3 ⟨rfl, hb3⟩
  have CA3 := CA.keep hb3 (by omega)
  have CR3 := Lib.hid (CR.keep hb3 (by omega))
  have FR3 := Lib.hid (frozen_keep FR hb3 (by omega))
  have hz3 : w.heap.size + 2 ≤ W3.heap.size := by have := hb3.size; omega
  have B3 := Lib.hid (hb2.trans (hb3.mono hb2.size))
  clear hb3 hb2 CA CR FR hz2
  obtain ⟨a0, a1, a2, a3, a4, a5, a6, a7, a8⟩ := CA3
  go_wp2_with fail
  (with_reducible refine (DX.out _).mono ?_)
  rintro e W4 ⟨rfl, hb4⟩
  obtain ⟨r0, r1, r2⟩ := CR3.out.keep hb4 (by omega)
  have z0 := frozen_keep FR3.out hb4 (by omega)
  obtain ⟨e0, e1, e2⟩ := res_cells r0 r1 r2 (.bool rn) (.string ri) (.string rf)
  have B4 := Lib.hid (B3.out.trans (hb4.mono B3.out.size))
  clear hb4
  clear a0 a1 a2 a3 a4 a5 a6 a7 a8
  go_wp2
  exact bodyPost_ret (v := .tuple #[.agg #[.bool rn, .string ri, .string rf], .int .i64 c]) (by simp [results, Tryd.results42, go_sem, e0, e1, e2]) rfl ⟨rfl, res_below B4.out (by omega) _ _ _⟩

set_option maxHeartbeats 4000000 in
set_option maxRecDepth 100000 in
theorem get_tt (on : Bool) (oi oj oI : ByteArray) (oV oW : Int) (oG oT : ByteArray) (oX : Int) (rn : Bool) (ri rf : ByteArray) (c : Int)
    (H1 : ∀ wx : World, Calls Tryd.prog 21 #[.agg #[.bool on, .string oi, .string oj, .string oI, .int .i64 oV, .int .i64 oW, .string oG, .string oT, .int .i64 oX]] wx fun e w' => e = .returned (.int .i64 0) ∧ Below wx.heap.size wx w')
    (H2 : ∀ wx : World, Calls Tryd.prog 52 #[.string oT] wx fun e w' => e = .returned (.tuple #[.agg #[.bool rn, .string ri, .string rf], .int .i64 c]) ∧ Below wx.heap.size wx w') (w : World) :
    Calls Tryd.prog 42 #[.agg #[.bool on, .string oi, .string oj, .string oI, .int .i64 oV, .int .i64 oW, .string oG, .string oT, .int .i64 oX], .string ⟨#[116]⟩] w fun e w' => e = .returned (.tuple #[.agg #[.bool rn, .string ri, .string rf], .int .i64 c]) ∧ Below w.heap.size w w' := by
  have DC := Lib.hid H1
  have DX := Lib.hid H2
  clear H1 H2
  go_enter Tryd.func42, Tryd.ntmps42
  go_wp2_with fail
  obtain ⟨W2, hW2⟩ : ∃ W2, W2 = (w.alloc (.cells #[.bool on, .string oi, .string oj, .string oI, .int .i64 oV, .int .i64 oW, .string oG, .string oT, .int .i64 oX] 30)).alloc (.cells #[.bool false, .string ⟨#[]⟩, .string ⟨#[]⟩] 27) := ⟨_, rfl⟩
  obtain ⟨hb2, hz2, CA, CR, FR⟩ := ops_dec w (.bool on) (.string oi) (.string oj) (.string oI) (.int .i64 oV) (.int .i64 oW) (.string oG) (.string oT) (.int .i64 oX) 30 27
  rw [← hW2] at hb2 hz2 CA CR FR ⊢
  clear hW2
  (with_reducible refine (DC.out _).mono ?_)
  rintro e W3 ⟨rfl, hb3⟩
  have CA3 := CA.keep hb3 (by omega)
  have CR3 := Lib.hid (CR.keep hb3 (by omega))
  have FR3 := Lib.hid (frozen_keep FR hb3 (by omega))
  have hz3 : w.heap.size + 2 ≤ W3.heap.size := by have := hb3.size; omega
  have B3 := Lib.hid (hb2.trans (hb3.mono hb2.size))
  clear hb3 hb2 CA CR FR hz2
  obtain ⟨a0, a1, a2, a3, a4, a5, a6, a7, a8⟩ := CA3
  go_wp2_with fail
  (with_reducible refine (DX.out _).mono ?_)
  rintro e W4 ⟨rfl, hb4⟩
  obtain ⟨r0, r1, r2⟩ := CR3.out.keep hb4 (by omega)
  have z0 := frozen_keep FR3.out hb4 (by omega)
  obtain ⟨e0, e1, e2⟩ := res_cells r0 r1 r2 (.bool rn) (.string ri) (.string rf)
  have B4 := Lib.hid (B3.out.trans (hb4.mono B3.out.size))
  clear hb4
  clear a0 a1 a2 a3 a4 a5 a6 a7 a8
  go_wp2
  exact bodyPost_ret (v := .tuple #[.agg #[.bool rn, .string ri, .string rf], .int .i64 c]) (by simp [results, Tryd.results42, go_sem, e0, e1, e2]) rfl ⟨rfl, res_below B4.out (by omega) _ _ _⟩

set_option maxHeartbeats 4000000 in
set_option maxRecDepth 100000 in
theorem get_n (on : Bool) (oi oj oI : ByteArray) (oV oW : Int) (oG oT : ByteArray) (oX : Int) (rn : Bool) (ri rf : ByteArray) (c : Int)
    (H1 : ∀ wx : World, Calls Tryd.prog 21 #[.agg #[.bool on, .string oi, .string oj, .string oI, .int .i64 oV, .int .i64 oW, .string oG, .string oT, .int .i64 oX]] wx fun e w' => e = .returned (.int .i64 0) ∧ Below wx.heap.size wx w')
    (H2 : ∀ wx : World, Calls Tryd.prog 36 #[.agg #[.bool on, .string oi, .string oj]] wx fun e w' => e = .returned (.tuple #[.agg #[.bool rn, .string ri, .string rf], .int .i64 c]) ∧ Below wx.heap.size wx w') (w : World) :
    Calls Tryd.prog 42 #[.agg #[.bool on, .string oi, .string oj, .string oI, .int .i64 oV, .int .i64 oW, .string oG, .string oT, .int .i64 oX], .string ⟨#[110]⟩] w fun e w' => e = .returned (.tuple #[.agg #[.bool rn, .string ri, .string rf], .int .i64 c]) ∧ Below w.heap.size w w' := by
  have DC := Lib.hid H1
  have DX := Lib.hid H2
  clear H1 H2
  go_enter Tryd.func42, Tryd.ntmps42
  go_wp2_with fail
  obtain ⟨W2, hW2⟩ : ∃ W2, W2 = (w.alloc (.cells #[.bool on, .string oi, .string oj, .string oI, .int .i64 oV, .int .i64 oW, .string oG, .string oT, .int .i64 oX] 30)).alloc (.cells #[.bool false, .string ⟨#[]⟩, .string ⟨#[]⟩] 27) := ⟨_, rfl⟩
  obtain ⟨hb2, hz2, CA, CR, FR⟩ := ops_dec w (.bool on) (.string oi) (.string oj) (.string oI) (.int .i64 oV) (.int .i64 oW) (.string oG) (.string oT) (.int .i64 oX) 30 27
  rw [← hW2] at hb2 hz2 CA CR FR ⊢
  clear hW2
  (with_reducible refine (DC.out _).mono ?_)
  rintro e W3 ⟨rfl, hb3⟩
  have CA3 := CA.keep hb3 (by omega)
  have CR3 := Lib.hid (CR.keep hb3 (by omega))
  have FR3 := Lib.hid (frozen_keep FR hb3 (by omega))
  have hz3 : w.heap.size + 2 ≤ W3.heap.size := by have := hb3.size; omega
  have B3 := Lib.hid (hb2.trans (hb3.mono hb2.size))
  clear hb3 hb2 CA CR FR hz2
  obtain ⟨a0, a1, a2, a3, a4, a5, a6, a7, a8⟩ := CA3
  go_wp2_with fail
  (with_reducible refine (DX.out _).mono ?_)
  rintro e W4 ⟨rfl, hb4⟩
  obtain ⟨r0, r1, r2⟩ := CR3.out.keep hb4 (by omega)
  have z0 := frozen_keep FR3.out hb4 (by omega)
  obtain ⟨e0, e1, e2⟩ := res_cells r0 r1 r2 (.bool rn) (.string ri) (.string rf)
  have B4 := Lib.hid (B3.out.trans (hb4.mono B3.out.size))
  clear hb4
  clear a0 a1 a2 a3 a4 a5 a6 a7 a8
  go_wp2
  exact bodyPost_ret (v := .tuple #[.agg #[.bool rn, .string ri, .string rf], .int .i64 c]) (by simp [results, Tryd.results42, go_sem, e0, e1, e2]) rfl ⟨rfl, res_below B4.out (by omega) _ _ _⟩

set_option maxHeartbeats 4000000 in
set_option maxRecDepth 100000 in
theorem get_v (on : Bool) (oi oj oI : ByteArray) (oV oW : Int) (oG oT : ByteArray) (oX : Int) (rn : Bool) (ri rf : ByteArray)
    (H1 : ∀ wx : World, Calls Tryd.prog 21 #[.agg #[.bool on, .string oi, .string oj, .string oI, .int .i64 oV, .int .i64 oW, .string oG, .string oT, .int .i64 oX]] wx fun e w' => e = .returned (.int .i64 0) ∧ Below wx.heap.size wx w')
    (H2 : ∀ wx : World, Calls Tryd.prog 53 #[.int .i64 oV] wx fun e w' => e = .returned (.agg #[.bool rn, .string ri, .string rf]) ∧ Below wx.heap.size wx w') (w : World) :
    Calls Tryd.prog 42 #[.agg #[.bool on, .string oi, .string oj, .string oI, .int .i64 oV, .int .i64 oW, .string oG, .string oT, .int .i64 oX], .string ⟨#[118]⟩] w fun e w' => e = .returned (.tuple #[.agg #[.bool rn, .string ri, .string rf], .int .i64 0]) ∧ Below w.heap.size w w' := by
  have DC := Lib.hid H1
  have DX := Lib.hid H2
  clear H1 H2
  go_enter Tryd.func42, Tryd.ntmps42
  go_wp2_with fail
  obtain ⟨W2, hW2⟩ : ∃ W2, W2 = (w.alloc (.cells #[.bool on, .string oi, .string oj, .string oI, .int .i64 oV, .int .i64 oW, .string oG, .string oT, .int .i64 oX] 30)).alloc (.cells #[.bool false, .string ⟨#[]⟩, .string ⟨#[]⟩] 27) := ⟨_, rfl⟩
  obtain ⟨hb2, hz2, CA, CR, FR⟩ := ops_dec w (.bool on) (.string oi) (.string oj) (.string oI) (.int .i64 oV) (.int .i64 oW) (.string oG) (.string oT) (.int .i64 oX) 30 27
  rw [← hW2] at hb2 hz2 CA CR FR ⊢
  clear hW2
  (with_reducible refine (DC.out _).mono ?_)
  rintro e W3 ⟨rfl, hb3⟩
  have CA3 := CA.keep hb3 (by omega)
  have CR3 := Lib.hid (CR.keep hb3 (by omega))
  have FR3 := Lib.hid (frozen_keep FR hb3 (by omega))
  have hz3 : w.heap.size + 2 ≤ W3.heap.size := by have := hb3.size; omega
  have B3 := Lib.hid (hb2.trans (hb3.mono hb2.size))
  clear hb3 hb2 CA CR FR hz2
  obtain ⟨a0, a1, a2, a3, a4, a5, a6, a7, a8⟩ := CA3
  go_wp2_with fail
  (with_reducible refine (DX.out _).mono ?_)
  rintro e W4 ⟨rfl, hb4⟩
  obtain ⟨r0, r1, r2⟩ := CR3.out.keep hb4 (by omega)
  have z0 := frozen_keep FR3.out hb4 (by omega)
  obtain ⟨e0, e1, e2⟩ := res_cells r0 r1 r2 (.bool rn) (.string ri) (.string rf)
  have B4 := Lib.hid (B3.out.trans (hb4.mono B3.out.size))
  clear hb4
  clear a0 a1 a2 a3 a4 a5 a6 a7 a8
  go_wp2
  exact bodyPost_ret (v := .tuple #[.agg #[.bool rn, .string ri, .string rf], .int .i64 0]) (by simp [results, Tryd.results42, go_sem, e0, e1, e2]) rfl ⟨rfl, res_below B4.out (by omega) _ _ _⟩

set_option maxHeartbeats 4000000 in
set_option maxRecDepth 100000 in
theorem get_w (on : Bool) (oi oj oI : ByteArray) (oV oW : Int) (oG oT : ByteArray) (oX : Int) (rn : Bool) (ri rf : ByteArray)
    (H1 : ∀ wx : World, Calls Tryd.prog 21 #[.agg #[.bool on, .string oi, .string oj, .string oI, .int .i64 oV, .int .i64 oW, .string oG, .string oT, .int .i64 oX]] wx fun e w' => e = .returned (.int .i64 0) ∧ Below wx.heap.size wx w')
    (H2 : ∀ wx : World, Calls Tryd.prog 53 #[.int .i64 oW] wx fun e w' => e = .returned (.agg #[.bool rn, .string ri, .string rf]) ∧ Below wx.heap.size wx w') (w : World) :
    Calls Tryd.prog 42 #[.agg #[.bool on, .string oi, .string oj, .string oI, .int .i64 oV, .int .i64 oW, .string oG, .string oT, .int .i64 oX], .string ⟨#[119]⟩] w fun e w' => e = .returned (.tuple #[.agg #[.bool rn, .string ri, .string rf], .int .i64 0]) ∧ Below w.heap.size w w' := by
  have DC := Lib.hid H1
  have DX := Lib.hid H2
  clear H1 H2
  go_enter Tryd.func42, Tryd.ntmps42
  go_wp2_with fail
  obtain ⟨W2, hW2⟩ : ∃ W2, W2 = (w.alloc (.cells #[.bool on, .string oi, .string oj, .string oI, .int .i64 oV, .int .i64 oW, .string oG, .string oT, .int .i64 oX] 30)).alloc (.cells #[.bool false, .string ⟨#[]⟩, .string ⟨#[]⟩] 27) := ⟨_, rfl⟩
  obtain ⟨hb2, hz2, CA, CR, FR⟩ := ops_dec w (.bool on) (.string oi) (.string oj) (.string oI) (.int .i64 oV) (.int .i64 oW) (.string oG) (.string oT) (.int .i64 oX) 30 27
  rw [← hW2] at hb2 hz2 CA CR FR ⊢
  clear hW2
  (with_reducible refine (DC.out _).mono ?_)
  rintro e W3 ⟨rfl, hb3⟩
  have CA3 := CA.keep hb3 (by omega)
  have CR3 := Lib.hid (CR.keep hb3 (by omega))
  have FR3 := Lib.hid (frozen_keep FR hb3 (by omega))
  have hz3 : w.heap.size + 2 ≤ W3.heap.size := by have := hb3.size; omega
  have B3 := Lib.hid (hb2.trans (hb3.mono hb2.size))
  clear hb3 hb2 CA CR FR hz2
  obtain ⟨a0, a1, a2, a3, a4, a5, a6, a7, a8⟩ := CA3
  go_wp2_with fail
  (with_reducible refine (DX.out _).mono ?_)
  rintro e W4 ⟨rfl, hb4⟩
  obtain ⟨r0, r1, r2⟩ := CR3.out.keep hb4 (by omega)
  have z0 := frozen_keep FR3.out hb4 (by omega)
  obtain ⟨e0, e1, e2⟩ := res_cells r0 r1 r2 (.bool rn) (.string ri) (.string rf)
  have B4 := Lib.hid (B3.out.trans (hb4.mono B3.out.size))
  clear hb4
  clear a0 a1 a2 a3 a4 a5 a6 a7 a8
  go_wp2
  exact bodyPost_ret (v := .tuple #[.agg #[.bool rn, .string ri, .string rf], .int .i64 0]) (by simp [results, Tryd.results42, go_sem, e0, e1, e2]) rfl ⟨rfl, res_below B4.out (by omega) _ _ _⟩

set_option maxHeartbeats 4000000 in
set_option maxRecDepth 100000 in
theorem get_c (on : Bool) (oi oj oI : ByteArray) (oV oW : Int) (oG oT : ByteArray) (oX : Int) (rn : Bool) (ri rf : ByteArray)
    (H1 : ∀ wx : World, Calls Tryd.prog 21 #[.agg #[.bool on, .string oi, .string oj, .string oI, .int .i64 oV, .int .i64 oW, .string oG, .string oT, .int .i64 oX]] wx fun e w' => e = .returned (.int .i64 0) ∧ Below wx.heap.size wx w')
    (H2 : ∀ wx : World, Calls Tryd.prog 53 #[.int .i64 oX] wx fun e w' => e = .returned (.agg #[.bool rn, .string ri, .string rf]) ∧ Below wx.heap.size wx w') (w : World) :
    Calls Tryd.prog 42 #[.agg #[.bool on, .string oi, .string oj, .string oI, .int .i64 oV, .int .i64 oW, .string oG, .string oT, .int .i64 oX], .string ⟨#[99]⟩] w fun e w' => e = .returned (.tuple #[.agg #[.bool rn, .string ri, .string rf], .int .i64 0]) ∧ Below w.heap.size w w' := by
  have DC := Lib.hid H1
  have DX := Lib.hid H2
  clear H1 H2
  go_enter Tryd.func42, Tryd.ntmps42
  go_wp2_with fail
  obtain ⟨W2, hW2⟩ : ∃ W2, W2 = (w.alloc (.cells #[.bool on, .string oi, .string oj, .string oI, .int .i64 oV, .int .i64 oW, .string oG, .string oT, .int .i64 oX] 30)).alloc (.cells #[.bool false, .string ⟨#[]⟩, .string ⟨#[]⟩] 27) := ⟨_, rfl⟩
  obtain ⟨hb2, hz2, CA, CR, FR⟩ := ops_dec w (.bool on) (.string oi) (.string oj) (.string oI) (.int .i64 oV) (.int .i64 oW) (.string oG) (.string oT) (.int .i64 oX) 30 27
  rw [← hW2] at hb2 hz2 CA CR FR ⊢
  clear hW2
  (with_reducible refine (DC.out _).mono ?_)
  rintro e W3 ⟨rfl, hb3⟩
  have CA3 := CA.keep hb3 (by omega)
  have CR3 := Lib.hid (CR.keep hb3 (by omega))
  have FR3 := Lib.hid (frozen_keep FR hb3 (by omega))
  have hz3 : w.heap.size + 2 ≤ W3.heap.size := by have := hb3.size; omega
  have B3 := Lib.hid (hb2.trans (hb3.mono hb2.size))
  clear hb3 hb2 CA CR FR hz2
  obtain ⟨a0, a1, a2, a3, a4, a5, a6, a7, a8⟩ := CA3
  go_wp2_with fail
  (with_reducible refine (DX.out _).mono ?_)
  rintro e W4 ⟨rfl, hb4⟩
  obtain ⟨r0, r1, r2⟩ := CR3.out.keep hb4 (by omega)
  have z0 := frozen_keep FR3.out hb4 (by omega)
  obtain ⟨e0, e1, e2⟩ := res_cells r0 r1 r2 (.bool rn) (.string ri) (.string rf)
  have B4 := Lib.hid (B3.out.trans (hb4.mono B3.out.size))
  clear hb4
  clear a0 a1 a2 a3 a4 a5 a6 a7 a8
  go_wp2
  exact bodyPost_ret (v := .tuple #[.agg #[.bool rn, .string ri, .string rf], .int .i64 0]) (by simp [results, Tryd.results42, go_sem, e0, e1, e2]) rfl ⟨rfl, res_below B4.out (by omega) _ _ _⟩

set_option maxHeartbeats 4000000 in
set_option maxRecDepth 100000 in
theorem get_e (on : Bool) (oi oj oI : ByteArray) (oV oW : Int) (oG oT : ByteArray) (oX : Int) (rn : Bool) (ri rf : ByteArray)
    (H1 : ∀ wx : World, Calls Tryd.prog 21 #[.agg #[.bool on, .string oi, .string oj, .string oI, .int .i64 oV, .int .i64 oW, .string oG, .string oT, .int .i64 oX]] wx fun e w' => e = .returned (.int .i64 0) ∧ Below wx.heap.size wx w')
    (H2 : ∀ wx : World, Calls Tryd.prog 53 #[.int .i64 oX] wx fun e w' => e = .returned (.agg #[.bool rn, .string ri, .string rf]) ∧ Below wx.heap.size wx w') (w : World) :
    Calls Tryd.prog 42 #[.agg #[.bool on, .string oi, .string oj, .string oI, .int .i64 oV, .int .i64 oW, .string oG, .string oT, .int .i64 oX], .string ⟨#[101]⟩] w fun e w' => e = .returned (.tuple #[.agg #[.bool rn, .string ri, .string rf], .int .i64 0]) ∧ Below w.heap.size w w' := by
  have DC := Lib.hid H1
  have DX := Lib.hid H2
  clear H1 H2
  go_enter Tryd.func42, Tryd.ntmps42
  go_wp2_with fail
  obtain ⟨W2, hW2⟩ : ∃ W2, W2 = (w.alloc (.cells #[.bool on, .string oi, .string oj, .string oI, .int .i64 oV, .int .i64 oW, .string oG, .string oT, .int .i64 oX] 30)).alloc (.cells #[.bool false, .string ⟨#[]⟩, .string ⟨#[]⟩] 27) := ⟨_, rfl⟩
  obtain ⟨hb2, hz2, CA, CR, FR⟩ := ops_dec w (.bool on) (.string oi) (.string oj) (.string oI) (.int .i64 oV) (.int .i64 oW) (.string oG) (.string oT) (.int .i64 oX) 30 27
  rw [← hW2] at hb2 hz2 CA CR FR ⊢
  clear hW2
  (with_reducible refine (DC.out _).mono ?_)
  rintro e W3 ⟨rfl, hb3⟩
  have CA3 := CA.keep hb3 (by omega)
  have CR3 := Lib.hid (CR.keep hb3 (by omega))
  have FR3 := Lib.hid (frozen_keep FR hb3 (by omega))
  have hz3 : w.heap.size + 2 ≤ W3.heap.size := by have := hb3.size; omega
  have B3 := Lib.hid (hb2.trans (hb3.mono hb2.size))
  clear hb3 hb2 CA CR FR hz2
  obtain ⟨a0, a1, a2, a3, a4, a5, a6, a7, a8⟩ := CA3
  go_wp2_with fail
  (with_reducible refine (DX.out _).mono ?_)
  rintro e W4 ⟨rfl, hb4⟩
  obtain ⟨r0, r1, r2⟩ := CR3.out.keep hb4 (by omega)
  have z0 := frozen_keep FR3.out hb4 (by omega)
  obtain ⟨e0, e1, e2⟩ := res_cells r0 r1 r2 (.bool rn) (.string ri) (.string rf)
  have B4 := Lib.hid (B3.out.trans (hb4.mono B3.out.size))
  clear hb4
  clear a0 a1 a2 a3 a4 a5 a6 a7 a8
  go_wp2
  exact bodyPost_ret (v := .tuple #[.agg #[.bool rn, .string ri, .string rf], .int .i64 0]) (by simp [results, Tryd.results42, go_sem, e0, e1, e2]) rfl ⟨rfl, res_below B4.out (by omega) _ _ _⟩
end
section
open Go.RowKit

theorem chk_form (on : Bool) (oi oj oI : ByteArray) (oV oW : Int) (oG oT : ByteArray) (oX : Int) (h1 : oi.size ≤ 140737488355328) (h2 : oj.size ≤ 140737488355328) :
    (∀ wx : World, Calls Tryd.prog 21 #[.agg #[.bool on, .string oi, .string oj, .string oI, .int .i64 oV, .int .i64 oW, .string oG, .string oT, .int .i64 oX]] wx fun e w' => e = .returned (.int .i64 40) ∧ Below wx.heap.size wx w') ∨ ((∀ wx : World, Calls Tryd.prog 21 #[.agg #[.bool on, .string oi, .string oj, .string oI, .int .i64 oV, .int .i64 oW, .string oG, .string oT, .int .i64 oX]] wx fun e w' => e = .returned (.int .i64 0) ∧ Below wx.heap.size wx w') ∧ ∃ p : Dc, p.Ok ∧ p.neg = false ∧ on = false ∧ oi = dStr p.i ∧ oj = dStr (cutF p) ∧ oI = dStr p.i ∧ oV = (p.f.length : Int) ∧ oW = ((cutF p).length : Int) ∧ oG = dStr (intg p.f) ∧ oT = dStr (intg (cutF p)) ∧ 0 ≤ oX ∧ oX ≤ 40) := by
  cases hb : okB on oi oj with
  | false => exact .inl (fun wx => ocheck_pad20 (H1 := fun wx => pad_bad on oi oj oV wx h1 h2 hb) (w := wx) (oI := _) (oV := _) (oW := _) (oG := _) (oT := _) (oX := _))
  | true =>
  obtain ⟨d, hd, rfl, rfl, rfl⟩ := ok_cases hb
  have hm := hd.most
  by_cases v1 : oV < 0
  · exact .inl (fun wx => ocheck_pad1 (H1 := fun wx => pad_lo d oV wx hd v1) (w := wx) (oI := _) (oV := _) (oW := _) (oG := _) (oT := _) (oX := _))
  by_cases v2 : 40 < oV
  · exact .inl (fun wx => ocheck_pad1 (H1 := fun wx => pad_hi d oV wx hd v2) (w := wx) (oI := _) (oV := _) (oW := _) (oG := _) (oT := _) (oX := _))
  obtain ⟨m, rfl⟩ : ∃ m : Nat, oV = (m : Int) := ⟨oV.toNat, by omega⟩
  have hpf := pad_form hd m (max d.f.length m) rfl
  by_cases hlong : 40 < d.i.length + max d.f.length m
  · rw [if_pos hlong] at hpf
    exact .inl (fun wx => ocheck_pad3 (H1 := fun wx => pad_ok d m wx none hpf hd (by omega)) (w := wx) (oI := _) (oV := _) (oW := _) (oG := _) (oT := _) (oX := _))
  rw [if_neg hlong] at hpf
  obtain ⟨p, hp⟩ : ∃ p, p = padded d (max d.f.length m - d.f.length) := ⟨_, rfl⟩
  rw [← hp] at hpf
  have hpo : p.Ok := by
    have := hpf
    unfold padD mkN at this
    exact (mk_some this).2.2.1
  have DP := fun wx => pad_ok d m wx (some p) hpf hd (by omega)
  by_cases hx : 0 ≤ oX ∧ oX ≤ 40
  case neg => exact .inl (fun wx => ocheck_exp (H1 := DP) (w := wx) (oI := _) (oV := _) (oW := _) (oG := _) (oT := _) (oX := _) (hx := hx))
  have DO := fun wx => operandsOf_any p ⟨false, p.i, cutF p⟩ oX wx (absX_trim p) hpo
  cases hn : d.neg with
  | true =>
    rw [hn] at DP
    exact .inl (fun wx => ocheck_d0 (H1 := DP) (H2 := DO) (w := wx) (oI := _) (oV := _) (oW := _) (oG := _) (oT := _) (oX := _) (hx := hx))
  | false =>
  rw [hn] at DP
  have hpl : p.f.length = max d.f.length m := by rw [hp]; show (d.f ++ List.replicate _ 0).length = _; simp; omega
  by_cases hv : m < d.f.length
  · exact .inl (fun wx => ocheck_d4 (H1 := DP) (H2 := DO) (w := wx) (oI := _) (oV := _) (oW := _) (oG := _) (oT := _) (oX := _) (hx := hx) (q := beq_eq_false_iff_ne.2 (by omega)))
  have hpn : p.neg = false := by rw [hp]; exact hn
  have DO2 := DO
  simp only [Go.Proofs.YtmggdnnffdaffaaDoor.oN, Go.Proofs.YtmggdnnffdaffaaDoor.oI, Go.Proofs.YtmggdnnffdaffaaDoor.oF, Go.Proofs.YtmggdnnffdaffaaDoor.oE] at DP
  rw [hpn] at DP DO2
  have s1 : (dStr d.i).size = d.i.length := dStr_size _
  have s2 : (dStr d.f).size = d.f.length := dStr_size _
  have hml : (m : Int) = (p.f.length : Int) := by omega
  by_cases c2 : dStr d.f = dStr (cutF p)
  case neg => exact .inl (fun wx => ocheck_d2 (H1 := DP) (H2 := DO2) (w := wx) (oI := _) (oV := _) (oW := _) (oG := _) (oT := _) (oX := _) (hx := hx) (q := toList_ne c2))
  by_cases c3 : oI = dStr p.i
  case neg => exact .inl (fun wx => ocheck_d3 (H1 := DP) (H2 := DO2) (w := wx) (oI := _) (oV := _) (oW := _) (oG := _) (oT := _) (oX := _) (hx := hx) (q := toList_ne c3))
  by_cases c5 : oW = ((cutF p).length : Int)
  case neg => exact .inl (fun wx => ocheck_d5 (H1 := DP) (H2 := DO2) (w := wx) (oI := _) (oV := _) (oW := _) (oG := _) (oT := _) (oX := _) (hx := hx) (q := beq_eq_false_iff_ne.2 c5))
  by_cases c6 : oG = dStr (intg p.f)
  case neg => exact .inl (fun wx => ocheck_d6 (H1 := DP) (H2 := DO2) (w := wx) (oI := _) (oV := _) (oW := _) (oG := _) (oT := _) (oX := _) (hx := hx) (q := toList_ne c6))
  by_cases c7 : oT = dStr (intg (cutF p))
  case neg => exact .inl (fun wx => ocheck_d7 (H1 := DP) (H2 := DO2) (w := wx) (oI := _) (oV := _) (oW := _) (oG := _) (oT := _) (oX := _) (hx := hx) (q := toList_ne c7))
  have hpi : d.i = p.i := by rw [hp]; rfl
  subst c3 c5 c6 c7
  rw [c2, hpi, hml]
  exact .inr ⟨fun wx => ocheck_ok (absX p) ⟨false, p.i, cutF p⟩ oX wx (absX_ok hpo) rfl hx.1 hx.2 (absX_trim p), p, hpo, hpn, rfl, rfl, rfl, rfl, rfl, rfl, rfl, rfl, hx.1, hx.2⟩
end
section
open Go.RowKit

def litD (l : List Nat) : Dc := ⟨false, l, []⟩
theorem lmkN_small (n : Bool) (v : Nat) (h : v < 10 ^ 40) : mkN n v 0 = some ⟨n && decide (v ≠ 0), digs v, []⟩ := by
  have h1 := (digs_le v 40 (by omega)).2 h
  have h2 := digs_len v
  rw [mkN_digs, padTo_len, if_neg (by omega), padTo_same (by omega), Nat.sub_zero, List.take_of_length_le (by omega), List.drop_eq_nil_of_le (by omega)]
theorem lit_nat {v : Nat} (h : v < 10 ^ 40) : (litD (digs v)).Ok := by
  have := lmkN_small false v h
  unfold mkN at this
  exact (mk_some this).2.2.1
theorem lit_int {p : Dc} (h : p.Ok) : (litD p.i).Ok := ⟨h.di, Digs.nil, h.one, by have := h.most; show p.i.length + 0 ≤ 40; omega, h.lead, fun e => by cases e⟩
theorem lit_digs {l : List Nat} (h : Digs l) (hl : l.length ≤ 40) : (litD (intg l)).Ok :=
  lit_nat (Nat.lt_of_lt_of_le (dVal_lt h) (Nat.pow_le_pow_right (by omega) hl))
theorem lit_trim (l : List Nat) : Trimmed (litD l) := .inl rfl
theorem cutD_ok {p : Dc} (h : p.Ok) : (⟨false, p.i, cutF p⟩ : Dc).Ok ∧ Trimmed ⟨false, p.i, cutF p⟩ := by
  obtain ⟨h1, -, h3⟩ := trim_facts (absX_ok h)
  rw [absX_trim] at h1 h3
  exact ⟨h1, h3⟩
theorem gcut_trim {d : Dc} (h : d.Ok) : trimD ⟨false, d.i, cutF d⟩ = ⟨false, d.i, cutF d⟩ := by
  obtain ⟨a1, a2, a3⟩ := trim_facts (absX_ok h)
  rw [absX_trim] at a1 a2 a3
  obtain ⟨b1, b2, b3⟩ := trim_facts a1
  exact trimmed_same b1 a1 b3 a3 b2
/-- The operand of a letter. -/
def letD (p : Dc) (E : Nat) (L : ByteArray) : Option Dc :=
  if L = ⟨#[110]⟩ then some ⟨false, p.i, cutF p⟩ else if L = ⟨#[105]⟩ then some (litD p.i) else if L = ⟨#[118]⟩ then some (litD (digs p.f.length)) else
  if L = ⟨#[119]⟩ then some (litD (digs (cutF p).length)) else if L = ⟨#[102]⟩ then some (litD (intg p.f)) else if L = ⟨#[116]⟩ then some (litD (intg (cutF p))) else
  if L = ⟨#[99]⟩ then some (litD (digs E)) else if L = ⟨#[101]⟩ then some (litD (digs E)) else none
theorem cut_len (p : Dc) : (cutF p).length ≤ p.f.length := by unfold cutF; rw [List.length_take]; omega
theorem cut_digs {p : Dc} (h : p.Ok) : Digs (cutF p) := fun d hd => h.df d (List.mem_of_mem_take hd)
theorem letD_ok {p : Dc} {E : Nat} {L : ByteArray} {x : Dc} (hp : p.Ok) (hE : E ≤ 40) (h : letD p E L = some x) : x.Ok ∧ Trimmed x ∧ x.neg = false := by
  have h40 : (40 : Nat) < 10 ^ 40 := by decide
  have hm := hp.most
  have hc := cut_len p
  unfold letD at h
  split at h
  · obtain rfl := Option.some.inj h; exact ⟨(cutD_ok hp).1, (cutD_ok hp).2, rfl⟩
  split at h
  · obtain rfl := Option.some.inj h; exact ⟨lit_int hp, lit_trim _, rfl⟩
  split at h
  · obtain rfl := Option.some.inj h; exact ⟨lit_nat (by omega), lit_trim _, rfl⟩
  split at h
  · obtain rfl := Option.some.inj h; exact ⟨lit_nat (by omega), lit_trim _, rfl⟩
  split at h
  · obtain rfl := Option.some.inj h; exact ⟨lit_digs hp.df (by omega), lit_trim _, rfl⟩
  split at h
  · obtain rfl := Option.some.inj h; exact ⟨lit_digs (cut_digs hp) (by omega), lit_trim _, rfl⟩
  split at h
  · obtain rfl := Option.some.inj h; exact ⟨lit_nat (by omega), lit_trim _, rfl⟩
  split at h
  · obtain rfl := Option.some.inj h; exact ⟨lit_nat (by omega), lit_trim _, rfl⟩
  · cases h
/-- The cells of operands, of a form. -/
def opsV (p : Dc) (E : Nat) : Value := .agg #[.bool false, .string (dStr p.i), .string (dStr (cutF p)), .string (dStr p.i), .int .i64 (p.f.length : Int), .int .i64 ((cutF p).length : Int), .string (dStr (intg p.f)), .string (dStr (intg (cutF p))), .int .i64 (E : Int)]
def GetP (o : Value) (L : ByteArray) (r : Value) : Prop := ∀ w : World, Calls Tryd.prog 42 #[o, .string L] w fun e w' => e = .returned r ∧ Below w.heap.size w w'
def decR (x : Dc) (c : Int) : Value := .tuple #[.agg #[.bool x.neg, .string (dStr x.i), .string (dStr x.f)], .int .i64 c]
def noR (c : Int) : Value := .tuple #[.agg #[.bool false, .string ⟨#[]⟩, .string ⟨#[]⟩], .int .i64 c]
theorem of_nat (k : Nat) (w : World) (h : k ≤ 40) : Calls Tryd.prog 53 #[.int .i64 (k : Int)] w fun e w' => e = .returned (.agg #[.bool false, .string (dStr (digs k)), .string ⟨#[]⟩]) ∧ Below w.heap.size w w' := by
  have := of_false (k : Int) w (by omega) (by omega)
  rwa [Int.natAbs_natCast] at this
theorem get_form (p : Dc) (E : Nat) (L : ByteArray) (hp : p.Ok) (hE : E ≤ 40)
    (HC : ∀ wx : World, Calls Tryd.prog 21 #[opsV p E] wx fun e w' => e = .returned (.int .i64 0) ∧ Below wx.heap.size wx w') :
    GetP (opsV p E) L (match letD p E L with | some x => decR x 0 | none => noR 40) := by
  intro w
  have hm := hp.most
  have hc := cut_len p
  unfold letD
  by_cases h1 : L = ⟨#[110]⟩
  · subst h1
    exact get_n (H1 := HC) (H2 := fun wx => by have := trim_ok ⟨false, p.i, cutF p⟩ wx (cutD_ok hp).1; rw [gcut_trim hp] at this; exact this) (w := w) (oI := _) (oV := _) (oW := _) (oG := _) (oT := _) (oX := _)
  rw [if_neg h1]
  by_cases h2 : L = ⟨#[105]⟩
  · subst h2
    exact get_i (H1 := HC) (H2 := fun wx => parse_whole (litD p.i) wx (lit_int hp) rfl rfl) (w := w) (oI := _) (oV := _) (oW := _) (oG := _) (oT := _) (oX := _)
  rw [if_neg h2]
  by_cases h3 : L = ⟨#[118]⟩
  · subst h3
    exact get_v (H1 := HC) (H2 := fun wx => of_nat p.f.length wx (by omega)) (w := w) (oI := _) (oV := _) (oW := _) (oG := _) (oT := _) (oX := _)
  rw [if_neg h3]
  by_cases h4 : L = ⟨#[119]⟩
  · subst h4
    exact get_w (H1 := HC) (H2 := fun wx => of_nat (cutF p).length wx (by omega)) (w := w) (oI := _) (oV := _) (oW := _) (oG := _) (oT := _) (oX := _)
  rw [if_neg h4]
  by_cases h5 : L = ⟨#[102]⟩
  · subst h5
    exact get_f (H1 := HC) (H2 := fun wx => parse_whole (litD (intg p.f)) wx (lit_digs hp.df (by omega)) rfl rfl) (w := w) (oI := _) (oV := _) (oW := _) (oG := _) (oT := _) (oX := _)
  rw [if_neg h5]
  by_cases h6 : L = ⟨#[116]⟩
  · subst h6
    exact get_tt (H1 := HC) (H2 := fun wx => parse_whole (litD (intg (cutF p))) wx (lit_digs (cut_digs hp) (by omega)) rfl rfl) (w := w) (oI := _) (oV := _) (oW := _) (oG := _) (oT := _) (oX := _)
  rw [if_neg h6]
  by_cases h7 : L = ⟨#[99]⟩
  · subst h7
    exact get_c (H1 := HC) (H2 := fun wx => of_nat E wx hE) (w := w) (oI := _) (oV := _) (oW := _) (oG := _) (oT := _) (oX := _)
  rw [if_neg h7]
  by_cases h8 : L = ⟨#[101]⟩
  · subst h8
    exact get_e (H1 := HC) (H2 := fun wx => of_nat E wx hE) (w := w) (oI := _) (oV := _) (oW := _) (oG := _) (oT := _) (oX := _)
  rw [if_neg h8]
  have ne : ∀ c : UInt8, L ≠ ⟨#[c]⟩ → (L.toList == [c]) = false := fun c h => by
    have := toList_ne h
    rwa [Lib.toList_data (⟨#[c]⟩ : ByteArray)] at this
  exact get_letter (L := L) (qn := ne _ h1) (qi := ne _ h2) (qv := ne _ h3) (qw := ne _ h4) (qf := ne _ h5) (qt := ne _ h6) (qc := ne _ h7) (qe := ne _ h8) (H1 := HC) (w := w) (oI := _) (oV := _) (oW := _) (oG := _) (oT := _) (oX := _)
/-- The program's Get of any operands and any letter. -/
theorem get_any (on : Bool) (oi oj oI : ByteArray) (oV oW : Int) (oG oT : ByteArray) (oX : Int) (L : ByteArray) (h1 : oi.size ≤ 140737488355328) (h2 : oj.size ≤ 140737488355328) :
    GetP (.agg #[.bool on, .string oi, .string oj, .string oI, .int .i64 oV, .int .i64 oW, .string oG, .string oT, .int .i64 oX]) L (noR 40) ∨
    ∃ x : Dc, x.Ok ∧ Trimmed x ∧ x.neg = false ∧ GetP (.agg #[.bool on, .string oi, .string oj, .string oI, .int .i64 oV, .int .i64 oW, .string oG, .string oT, .int .i64 oX]) L (decR x 0) := by
  rcases chk_form on oi oj oI oV oW oG oT oX h1 h2 with H | ⟨H, p, hp, -, rfl, rfl, rfl, rfl, rfl, rfl, rfl, rfl, e1, e2⟩
  · exact .inl fun w => get_no (L := L) (H1 := H) (w := w) (oI := _) (oV := _) (oW := _) (oG := _) (oT := _) (oX := _)
  · obtain ⟨E, rfl⟩ : ∃ E : Nat, oX = (E : Int) := ⟨oX.toNat, by omega⟩
    have hG := get_form p E L hp (by omega) H
    cases hl : letD p E L with
    | none => rw [hl] at hG; exact .inl hG
    | some x =>
      rw [hl] at hG
      obtain ⟨a, b, c⟩ := letD_ok hp (by omega) hl
      exact .inr ⟨x, a, b, c, hG⟩
end
section
open Go.RowKit

theorem z_abs (d : Dc) : d.z.natAbs = d.num := by
  show (if d.neg then -(d.num : Int) else (d.num : Int)).natAbs = d.num
  cases d.neg <;> simp
theorem last_num {d : Dc} {x : Nat} (hd : d.Ok) (h : d.f.getLast? = some x) : d.num % 10 = x := by
  have hx : x < 10 := hd.df x (List.mem_of_getLast? h)
  have hne : d.f ≠ [] := fun e => by rw [e] at h; cases h
  have e : d.f = d.f.dropLast ++ [x] := by
    have h1 := (List.dropLast_concat_getLast hne).symm
    rw [List.getLast?_eq_some_getLast hne] at h
    rw [Option.some.inj h] at h1
    exact h1
  show dVal (d.i ++ d.f) % 10 = x
  rw [e, ← List.append_assoc, dVal_snoc]
  omega
theorem rem_trim {x b r : Dc} (hx : x.Ok) (ht : Trimmed x) (hb : b.f = []) (h : remD x b = some r) : Trimmed r := by
  unfold remD at h
  have hm : max x.f.length b.f.length = x.f.length := by rw [hb]; show max _ 0 = _; omega
  rw [hm] at h
  obtain ⟨-, hf, ho, hn, -⟩ := mk_some h
  rcases ht with h0 | ⟨y, hy, hy0⟩
  · left
    exact List.eq_nil_of_length_eq_zero (by rw [hf, h0]; rfl)
  · have hpos : 0 < x.f.length := by
      cases hxf : x.f with
      | nil => rw [hxf] at hy; cases hy
      | cons a t => simp
    have hne : r.f ≠ [] := fun e => by rw [e] at hf; simp at hf; omega
    refine .inr ⟨r.f.getLast hne, List.getLast?_eq_some_getLast hne, ?_⟩
    have h1 := last_num ho (List.getLast?_eq_some_getLast hne)
    have h2 := last_num hx hy
    rw [← h1, hn]
    have u1 : x.up x.f.length = x.z := by unfold Dc.up; rw [Nat.sub_self, Int.pow_zero, Int.mul_one]
    have u2 : b.up x.f.length = b.z * 10 ^ x.f.length := by unfold Dc.up; rw [hb]; rfl
    rw [u1, u2, Int.natAbs_tmod, z_abs]
    have u3 : (b.z * 10 ^ x.f.length).natAbs = 10 * (b.num * 10 ^ (x.f.length - 1)) := by
      rw [Int.natAbs_mul, z_abs, Int.natAbs_pow]
      show b.num * 10 ^ x.f.length = _
      obtain ⟨t, ht⟩ : ∃ t, x.f.length = t + 1 := ⟨x.f.length - 1, by omega⟩
      rw [ht, Nat.pow_succ, Nat.add_sub_cancel, Nat.mul_comm 10, Nat.mul_assoc]
    rw [u3, Nat.mod_mul_right_mod, h2]
    exact hy0
def ModP (o : Value) (L by_ : ByteArray) (r : Value) : Prop := ∀ w : World, Calls Tryd.prog 23 #[o, .string L, .string by_] w fun e w' => e = .returned r ∧ Below w.heap.size w w'
/-- What a number leaves; none where it is no number, or nought. -/
def leftD (x : Dc) (by_ : ByteArray) : Option Dc :=
  if by_.size = 0 then some x else if okB false by_ ⟨#[]⟩ = true then (if dVal (dN by_.data.toList) = 0 then none else remD x (litD (dN by_.data.toList))) else none
theorem num_form {s : ByteArray} (h : okB false s ⟨#[]⟩ = true) : (litD (dN s.data.toList)).Ok ∧ s = dStr (dN s.data.toList) := by
  obtain ⟨d, hd, hn, hi, hf⟩ := ok_cases h
  have e : dN s.data.toList = d.i := by
    rw [hi, dStr_toList]
    show dN (dB d.i) = d.i
    exact dN_dB hd.di
  rw [e]
  exact ⟨lit_int hd, hi⟩
theorem leftD_ok {x r : Dc} {by_ : ByteArray} (hx : x.Ok) (ht : Trimmed x) (h : leftD x by_ = some r) : r.Ok ∧ Trimmed r := by
  unfold leftD at h
  split at h
  · obtain rfl := Option.some.inj h; exact ⟨hx, ht⟩
  split at h
  · split at h
    · cases h
    · refine ⟨?_, rem_trim hx ht rfl h⟩
      have := h
      unfold remD at this
      exact (mk_some this).2.2.1
  · cases h
section
variable (on : Bool) (oi oj oI : ByteArray) (oV oW : Int) (oG oT : ByteArray) (oX : Int) (L by_ : ByteArray)
theorem mod_form (x : Dc) (hx : x.Ok) (hb : by_.size ≤ 140737488355328) (HG : GetP (.agg #[.bool on, .string oi, .string oj, .string oI, .int .i64 oV, .int .i64 oW, .string oG, .string oT, .int .i64 oX]) L (decR x 0)) :
    ModP (.agg #[.bool on, .string oi, .string oj, .string oI, .int .i64 oV, .int .i64 oW, .string oG, .string oT, .int .i64 oX]) L by_ (match leftD x by_ with | some r => decR r 0 | none => noR 40) := by
  intro w
  have si : (dStr x.i).size ≤ 140737488355328 := by rw [dStr_size]; have := hx.most; omega
  have sf : (dStr x.f).size ≤ 140737488355328 := by rw [dStr_size]; have := hx.most; omega
  unfold leftD
  by_cases h0 : by_.size = 0
  · rw [if_pos h0]
    have e : by_ = ⟨#[]⟩ := by
      apply ByteArray.ext
      exact Array.eq_empty_of_size_eq_zero h0
    subst e
    exact mod_empty (H1 := HG) (w := w) (oI := _) (oV := _) (oW := _) (oG := _) (oT := _) (oX := _)
  rw [if_neg h0]
  cases hk : okB false by_ ⟨#[]⟩ with
  | false =>
    rw [if_neg Bool.false_ne_true]
    exact mod_bad20 (hby := h0) (H1 := HG) (H2 := fun wx => rem_bad2 x.neg false (dStr x.i) (dStr x.f) by_ ⟨#[]⟩ wx si sf hb (by decide) (ok_of hx) hk) (w := w) (oI := _) (oV := _) (oW := _) (oG := _) (oT := _) (oX := _)
  | true =>
    rw [if_pos rfl]
    obtain ⟨hbo, hbe⟩ := num_form hk
    have hnum : (litD (dN by_.data.toList)).num = dVal (dN by_.data.toList) := by show dVal (_ ++ []) = _; rw [List.append_nil]; rfl
    obtain ⟨bl, hbl⟩ : ∃ bl, bl = dN by_.data.toList := ⟨_, rfl⟩
    rw [← hbl] at hbo hbe hnum ⊢
    subst hbe
    by_cases hz : dVal bl = 0
    · rw [if_pos hz]
      exact mod_bad21 (hby := h0) (H1 := HG) (H2 := fun wx => rem_zero x (litD bl) wx hx hbo (hnum.trans hz)) (w := w) (oI := _) (oV := _) (oW := _) (oG := _) (oT := _) (oX := _)
    · rw [if_neg hz]
      obtain ⟨r, hr⟩ := rem_room hx hbo (by intro e; apply hz; rw [← hnum, ← z_abs, e]; rfl)
      rw [hr]
      exact mod_rem (hby := h0) (H1 := HG) (H2 := fun wx => rem_ok x (litD bl) wx (some r) hr hx hbo (by rw [hnum]; exact hz)) (w := w) (oI := _) (oV := _) (oW := _) (oG := _) (oT := _) (oX := _)
/-- The program's Mod of any operands, letter and number. -/
theorem mod_any (h1 : oi.size ≤ 140737488355328) (h2 : oj.size ≤ 140737488355328) (hb : by_.size ≤ 140737488355328) :
    ModP (.agg #[.bool on, .string oi, .string oj, .string oI, .int .i64 oV, .int .i64 oW, .string oG, .string oT, .int .i64 oX]) L by_ (noR 40) ∨
    ∃ r : Dc, r.Ok ∧ Trimmed r ∧ ModP (.agg #[.bool on, .string oi, .string oj, .string oI, .int .i64 oV, .int .i64 oW, .string oG, .string oT, .int .i64 oX]) L by_ (decR r 0) := by
  rcases get_any on oi oj oI oV oW oG oT oX L h1 h2 with H | ⟨x, hx, ht, -, H⟩
  · exact .inl fun w => mod_err40 (by_ := by_) (H1 := H) (w := w) (oI := _) (oV := _) (oW := _) (oG := _) (oT := _) (oX := _)
  · have hM := mod_form on oi oj oI oV oW oG oT oX L by_ x hx hb H
    cases hl : leftD x by_ with
    | none => rw [hl] at hM; exact .inl hM
    | some r =>
      rw [hl] at hM
      obtain ⟨a, b⟩ := leftD_ok hx ht hl
      exact .inr ⟨r, a, b, hM⟩
end
end
section
open Go.RowKit
attribute [local go_sem ↓] Go.wp_at_zero Go.wp_at_succ

set_option maxHeartbeats 4000000 in
set_option maxRecDepth 100000 in
theorem in_go (on : Bool) (oi oj oI : ByteArray) (oV oW : Int) (oG oT : ByteArray) (oX : Int) (rO rM : ByteArray) (rN rW : Bool) (sv : Value) (xn : Bool) (xi xf : ByteArray) (b : Bool) (w : World)
    (H1 : ∀ wx : World, Calls Tryd.prog 23 #[.agg #[.bool on, .string oi, .string oj, .string oI, .int .i64 oV, .int .i64 oW, .string oG, .string oT, .int .i64 oX], .string rO, .string rM] wx fun e w' => e = .returned (.tuple #[.agg #[.bool xn, .string xi, .string xf], .int .i64 0]) ∧ Below wx.heap.size wx w')
    (H2 : ∀ wx : World, Below w.heap.size w wx → Calls Tryd.prog 24 #[sv] wx fun e w' => e = .returned (.bool true) ∧ Below wx.heap.size wx w')
    (H3 : ∀ wx : World, Below w.heap.size w wx → Calls Tryd.prog 25 #[.agg #[.bool xn, .string xi, .string xf], .agg #[.string rO, .string rM, .bool rN, .bool rW, sv]] wx fun e w' => e = .returned (.bool b) ∧ Below wx.heap.size wx w') :
    Calls Tryd.prog 10 #[.agg #[.bool on, .string oi, .string oj, .string oI, .int .i64 oV, .int .i64 oW, .string oG, .string oT, .int .i64 oX], .agg #[.string rO, .string rM, .bool rN, .bool rW, sv]] w fun e w' => e = .returned (.tuple #[.bool (b != rN), .int .i64 0]) ∧ Below w.heap.size w w' := by
  have D1 := Lib.hid H1
  have D2 := Lib.hid H2
  have D3 := Lib.hid H3
  clear H1 H2 H3
  go_enter Tryd.func10, Tryd.ntmps10
  go_wp2_with fail
  obtain ⟨W2, hW2⟩ : ∃ W2, W2 = (w.alloc (.cells #[.bool on, .string oi, .string oj, .string oI, .int .i64 oV, .int .i64 oW, .string oG, .string oT, .int .i64 oX] 30)).alloc (.cells #[.string rO, .string rM, .bool rN, .bool rW, sv] 40) := ⟨_, rfl⟩
  obtain ⟨hb2, hz2, CR⟩ : Below w.heap.size w W2 ∧ w.heap.size + 2 ≤ W2.heap.size ∧ Cells5 W2 (w.heap.size + 1) (.string rO) (.string rM) (.bool rN) (.bool rW) sv := by
    rw [hW2]
    have c2 := (five_box (w.alloc (.cells #[.bool on, .string oi, .string oj, .string oI, .int .i64 oV, .int .i64 oW, .string oG, .string oT, .int .i64 oX] 30)) (.string rO) (.string rM) (.bool rN) (.bool rW) (sv) 40).2.1
    have hs : (w.alloc (.cells #[.bool on, .string oi, .string oj, .string oI, .int .i64 oV, .int .i64 oW, .string oG, .string oT, .int .i64 oX] 30)).heap.size = w.heap.size + 1 := by simp
    rw [hs] at c2
    exact ⟨below_two w _ _, by simp, c2⟩
  rw [← hW2]
  clear hW2
  (with_reducible refine (D1.out _).mono ?_)
  rintro e W3 ⟨rfl, hb3⟩
  have h3 := hb3.size
  have ba : Below W3.heap.size W3 (W3.alloc (.cells #[.bool xn, .string xi, .string xf] 27)) := (Below.refl _ _).alloc (Nat.le_refl _) _
  have CR4 := (CR.keep hb3 (by omega)).keep ba (by omega)
  have CX4 := (one_box W3 (.bool xn) (.string xi) (.string xf) 27).2.1
  have B4 : Below w.heap.size w (W3.alloc (.cells #[.bool xn, .string xi, .string xf] 27)) := (hb2.trans (hb3.mono hb2.size)).trans (ba.mono (by omega))
  have KR4 := Lib.hid CR4
  have KX4 := Lib.hid CX4
  have KB4 := Lib.hid B4
  clear hb3 hb2 CR ba B4
  obtain ⟨r0, r1, r2, r3, r4⟩ := CR4
  obtain ⟨x0, x1, x2⟩ := CX4
  go_wp2_with fail
  obtain ⟨V, hV⟩ : ∃ V, V = W3.alloc (.cells #[.bool xn, .string xi, .string xf] 27) := ⟨_, rfl⟩
  have hzV : W3.heap.size + 1 ≤ V.heap.size := by rw [hV]; simp
  rw [← hV] at KR4 KX4 KB4 ⊢
  clear hV r0 r1 r2 r3 r4 x0 x1 x2
  (with_reducible refine (D2.out _ KB4.out).mono ?_)
  rintro e W5 ⟨rfl, hb5⟩
  have h5 := hb5.size
  have KR5 := Lib.hid (KR4.out.keep hb5 (by omega))
  have KX5 := Lib.hid (KX4.out.keep hb5 (by omega))
  have KB5 := Lib.hid (KB4.out.trans (hb5.mono KB4.out.size))
  clear hb5 KR4 KX4 KB4
  obtain ⟨r0, r1, r2, r3, r4⟩ := KR5.out
  obtain ⟨x0, x1, x2⟩ := KX5.out
  have hd3 := D3.out
  go_wp2_with fail
  go_region_held3 (fun w' => w'.cell? ⟨w.heap.size + 1, 0, none⟩ = some (.string rO) ∧ w'.cell? ⟨w.heap.size + 1, 1, none⟩ = some (.string rM) ∧ w'.cell? ⟨w.heap.size + 1, 2, none⟩ = some (.bool rN) ∧ w'.cell? ⟨w.heap.size + 1, 3, none⟩ = some (.bool rW) ∧ w'.cell? ⟨w.heap.size + 1, 4, none⟩ = some (sv) ∧ w'.cell? ⟨W3.heap.size, 0, none⟩ = some (.bool xn) ∧ w'.cell? ⟨W3.heap.size, 1, none⟩ = some (.string xi) ∧ w'.cell? ⟨W3.heap.size, 2, none⟩ = some (.string xf))
    (first
      | (with_reducible exact ⟨r0, r1, r2, r3, r4, x0, x1, x2⟩)
      | (with_reducible exact ⟨(drew_cell _ _).trans r0, (drew_cell _ _).trans r1, (drew_cell _ _).trans r2, (drew_cell _ _).trans r3, (drew_cell _ _).trans r4, (drew_cell _ _).trans x0, (drew_cell _ _).trans x1, (drew_cell _ _).trans x2⟩)
      | (have t := KR5.out.keep hA (by omega); have u := KX5.out.keep hA (by omega); obtain ⟨t0, t1, t2, t3, t4⟩ := t; obtain ⟨u0, u1, u2⟩ := u; with_reducible exact ⟨t0, t1, t2, t3, t4, u0, u1, u2⟩))
    (first
      | (go_at_call 25; (with_reducible refine (hd3 _ (drew1 KB5.out)).mono ?_); rintro e wA ⟨rfl, hbA⟩; have hA : Below W5.heap.size W5 wA := undrew hbA))
  all_goals
    have hend := Lib.hid (KB5.out.trans (hA.mono KB5.out.size))
    go_wp2
    go_ret2
    exact ⟨rfl, hend.out⟩

set_option maxHeartbeats 4000000 in
set_option maxRecDepth 100000 in
theorem in_err (on : Bool) (oi oj oI : ByteArray) (oV oW : Int) (oG oT : ByteArray) (oX : Int) (rO rM : ByteArray) (rN rW : Bool) (sv : Value) (xn : Bool) (xi xf : ByteArray)  (w : World)
    (H1 : ∀ wx : World, Calls Tryd.prog 23 #[.agg #[.bool on, .string oi, .string oj, .string oI, .int .i64 oV, .int .i64 oW, .string oG, .string oT, .int .i64 oX], .string rO, .string rM] wx fun e w' => e = .returned (.tuple #[.agg #[.bool xn, .string xi, .string xf], .int .i64 40]) ∧ Below wx.heap.size wx w') :
    Calls Tryd.prog 10 #[.agg #[.bool on, .string oi, .string oj, .string oI, .int .i64 oV, .int .i64 oW, .string oG, .string oT, .int .i64 oX], .agg #[.string rO, .string rM, .bool rN, .bool rW, sv]] w fun e w' => e = .returned (.tuple #[.bool false, .int .i64 40]) ∧ Below w.heap.size w w' := by
  have D1 := Lib.hid H1
  clear H1
  go_enter Tryd.func10, Tryd.ntmps10
  go_wp2_with fail
  obtain ⟨W2, hW2⟩ : ∃ W2, W2 = (w.alloc (.cells #[.bool on, .string oi, .string oj, .string oI, .int .i64 oV, .int .i64 oW, .string oG, .string oT, .int .i64 oX] 30)).alloc (.cells #[.string rO, .string rM, .bool rN, .bool rW, sv] 40) := ⟨_, rfl⟩
  obtain ⟨hb2, hz2, CR⟩ : Below w.heap.size w W2 ∧ w.heap.size + 2 ≤ W2.heap.size ∧ Cells5 W2 (w.heap.size + 1) (.string rO) (.string rM) (.bool rN) (.bool rW) sv := by
    rw [hW2]
    have c2 := (five_box (w.alloc (.cells #[.bool on, .string oi, .string oj, .string oI, .int .i64 oV, .int .i64 oW, .string oG, .string oT, .int .i64 oX] 30)) (.string rO) (.string rM) (.bool rN) (.bool rW) (sv) 40).2.1
    have hs : (w.alloc (.cells #[.bool on, .string oi, .string oj, .string oI, .int .i64 oV, .int .i64 oW, .string oG, .string oT, .int .i64 oX] 30)).heap.size = w.heap.size + 1 := by simp
    rw [hs] at c2
    exact ⟨below_two w _ _, by simp, c2⟩
  rw [← hW2]
  clear hW2
  (with_reducible refine (D1.out _).mono ?_)
  rintro e W3 ⟨rfl, hb3⟩
  have h3 := hb3.size
  have ba : Below W3.heap.size W3 (W3.alloc (.cells #[.bool xn, .string xi, .string xf] 27)) := (Below.refl _ _).alloc (Nat.le_refl _) _
  have CR4 := (CR.keep hb3 (by omega)).keep ba (by omega)
  have CX4 := (one_box W3 (.bool xn) (.string xi) (.string xf) 27).2.1
  have B4 : Below w.heap.size w (W3.alloc (.cells #[.bool xn, .string xi, .string xf] 27)) := (hb2.trans (hb3.mono hb2.size)).trans (ba.mono (by omega))
  have KR4 := Lib.hid CR4
  have KX4 := Lib.hid CX4
  have KB4 := Lib.hid B4
  clear hb3 hb2 CR ba B4
  obtain ⟨r0, r1, r2, r3, r4⟩ := CR4
  obtain ⟨x0, x1, x2⟩ := CX4
  go_wp2
  go_ret2
  exact ⟨rfl, KB4.out⟩

set_option maxHeartbeats 4000000 in
set_option maxRecDepth 100000 in
theorem in_list (on : Bool) (oi oj oI : ByteArray) (oV oW : Int) (oG oT : ByteArray) (oX : Int) (rO rM : ByteArray) (rN rW : Bool) (sv : Value) (xn : Bool) (xi xf : ByteArray)  (w : World)
    (H1 : ∀ wx : World, Calls Tryd.prog 23 #[.agg #[.bool on, .string oi, .string oj, .string oI, .int .i64 oV, .int .i64 oW, .string oG, .string oT, .int .i64 oX], .string rO, .string rM] wx fun e w' => e = .returned (.tuple #[.agg #[.bool xn, .string xi, .string xf], .int .i64 0]) ∧ Below wx.heap.size wx w')
    (H2 : ∀ wx : World, Below w.heap.size w wx → Calls Tryd.prog 24 #[sv] wx fun e w' => e = .returned (.bool false) ∧ Below wx.heap.size wx w') :
    Calls Tryd.prog 10 #[.agg #[.bool on, .string oi, .string oj, .string oI, .int .i64 oV, .int .i64 oW, .string oG, .string oT, .int .i64 oX], .agg #[.string rO, .string rM, .bool rN, .bool rW, sv]] w fun e w' => e = .returned (.tuple #[.bool false, .int .i64 40]) ∧ Below w.heap.size w w' := by
  have D1 := Lib.hid H1
  have D2 := Lib.hid H2
  clear H1 H2
  go_enter Tryd.func10, Tryd.ntmps10
  go_wp2_with fail
  obtain ⟨W2, hW2⟩ : ∃ W2, W2 = (w.alloc (.cells #[.bool on, .string oi, .string oj, .string oI, .int .i64 oV, .int .i64 oW, .string oG, .string oT, .int .i64 oX] 30)).alloc (.cells #[.string rO, .string rM, .bool rN, .bool rW, sv] 40) := ⟨_, rfl⟩
  obtain ⟨hb2, hz2, CR⟩ : Below w.heap.size w W2 ∧ w.heap.size + 2 ≤ W2.heap.size ∧ Cells5 W2 (w.heap.size + 1) (.string rO) (.string rM) (.bool rN) (.bool rW) sv := by
    rw [hW2]
    have c2 := (five_box (w.alloc (.cells #[.bool on, .string oi, .string oj, .string oI, .int .i64 oV, .int .i64 oW, .string oG, .string oT, .int .i64 oX] 30)) (.string rO) (.string rM) (.bool rN) (.bool rW) (sv) 40).2.1
    have hs : (w.alloc (.cells #[.bool on, .string oi, .string oj, .string oI, .int .i64 oV, .int .i64 oW, .string oG, .string oT, .int .i64 oX] 30)).heap.size = w.heap.size + 1 := by simp
    rw [hs] at c2
    exact ⟨below_two w _ _, by simp, c2⟩
  rw [← hW2]
  clear hW2
  (with_reducible refine (D1.out _).mono ?_)
  rintro e W3 ⟨rfl, hb3⟩
  have h3 := hb3.size
  have ba : Below W3.heap.size W3 (W3.alloc (.cells #[.bool xn, .string xi, .string xf] 27)) := (Below.refl _ _).alloc (Nat.le_refl _) _
  have CR4 := (CR.keep hb3 (by omega)).keep ba (by omega)
  have CX4 := (one_box W3 (.bool xn) (.string xi) (.string xf) 27).2.1
  have B4 : Below w.heap.size w (W3.alloc (.cells #[.bool xn, .string xi, .string xf] 27)) := (hb2.trans (hb3.mono hb2.size)).trans (ba.mono (by omega))
  have KR4 := Lib.hid CR4
  have KX4 := Lib.hid CX4
  have KB4 := Lib.hid B4
  clear hb3 hb2 CR ba B4
  obtain ⟨r0, r1, r2, r3, r4⟩ := CR4
  obtain ⟨x0, x1, x2⟩ := CX4
  go_wp2_with fail
  obtain ⟨V, hV⟩ : ∃ V, V = W3.alloc (.cells #[.bool xn, .string xi, .string xf] 27) := ⟨_, rfl⟩
  have hzV : W3.heap.size + 1 ≤ V.heap.size := by rw [hV]; simp
  rw [← hV] at KR4 KX4 KB4 ⊢
  clear hV r0 r1 r2 r3 r4 x0 x1 x2
  (with_reducible refine (D2.out _ KB4.out).mono ?_)
  rintro e W5 ⟨rfl, hb5⟩
  have h5 := hb5.size
  have KR5 := Lib.hid (KR4.out.keep hb5 (by omega))
  have KX5 := Lib.hid (KX4.out.keep hb5 (by omega))
  have KB5 := Lib.hid (KB4.out.trans (hb5.mono KB4.out.size))
  clear hb5 KR4 KX4 KB4
  go_wp2
  go_ret2
  exact ⟨rfl, KB5.out⟩
end
section
open Go.RowKit
attribute [local go_sem ↓] Go.wp_at_zero Go.wp_at_succ

def spD (s : ByteArray) : Dc := litD (dN s.data.toList)
/-- May a span be? -/
def spanB (x : ByteArray × ByteArray) : Bool := okB false x.1 ⟨#[]⟩ && okB false x.2 ⟨#[]⟩ && decide (cmpD (spD x.1) (spD x.2) ≤ 0)
def listB (l : List (ByteArray × ByteArray)) : Bool := decide (1 ≤ l.length) && decide (l.length ≤ 64) && l.all spanB
def CmpP (x : ByteArray × ByteArray) (c e : Int) : Prop := ∀ wx : World, Calls Tryd.prog 13 #[.agg #[.bool false, .string x.1, .string ⟨#[]⟩], .agg #[.bool false, .string x.2, .string ⟨#[]⟩]] wx fun r w' => r = .returned (.tuple #[.int .i64 c, .int .i64 e]) ∧ Below wx.heap.size wx w'
theorem span_cmp (x : ByteArray × ByteArray) (h1 : x.1.size ≤ 140737488355328) (h2 : x.2.size ≤ 140737488355328) :
    (spanB x = true ∧ ∃ c : Int, c ≤ 0 ∧ CmpP x c 0) ∨ (spanB x = false ∧ (CmpP x 0 20 ∨ ∃ c : Int, 0 < c ∧ CmpP x c 0)) := by
  unfold spanB
  cases e1 : okB false x.1 ⟨#[]⟩ with
  | false => exact .inr ⟨rfl, .inl fun wx => compare_bad1 false false x.1 ⟨#[]⟩ x.2 ⟨#[]⟩ wx h1 (by decide) e1⟩
  | true =>
    cases e2 : okB false x.2 ⟨#[]⟩ with
    | false => exact .inr ⟨rfl, .inl fun wx => compare_bad2 false false x.1 ⟨#[]⟩ x.2 ⟨#[]⟩ wx h1 (by decide) h2 (by decide) e1 e2⟩
    | true =>
      obtain ⟨a1, a2⟩ := num_form e1
      obtain ⟨b1, b2⟩ := num_form e2
      have H : CmpP x (cmpD (spD x.1) (spD x.2)) 0 := fun wx => by
        have := compare_ok (spD x.1) (spD x.2) wx a1 b1
        have e3 : dStr (spD x.1).i = x.1 := a2.symm
        have e4 : dStr (spD x.2).i = x.2 := b2.symm
        rw [e3, e4] at this
        exact this
      by_cases hc : cmpD (spD x.1) (spD x.2) ≤ 0
      · exact .inl ⟨by simp [hc], _, hc, H⟩
      · exact .inr ⟨by simp [hc], .inr ⟨_, by omega, H⟩⟩

set_option maxHeartbeats 8000000 in
set_option maxRecDepth 100000 in
theorem isList_some (l : List (ByteArray × ByteArray)) (g n cap : Nat) (w : World) (hs : Spn w g l) (hg : g < w.heap.size) (hl : l.length = n) (hn : 1 ≤ n) (hm : n ≤ 64)
    (hz : ∀ k, k < n → (l.getD k dp).1.size ≤ 140737488355328 ∧ (l.getD k dp).2.size ≤ 140737488355328) :
    Calls Tryd.prog 24 #[.slice (some ⟨g, 0, none⟩) n cap] w fun e w' => e = .returned (.bool (l.all spanB)) ∧ Below w.heap.size w w' := by
  have HS := Lib.hid hs
  have HCC := Lib.hid (fun k (hk : k < n) => span_cmp (l.getD k dp) (hz k hk).1 (hz k hk).2)
  have HL := Lib.hid hl
  have HALL : Hid ((∀ k, k < n → spanB (l.getD k dp) = true) → l.all spanB = true) := fun h => by
    refine List.all_eq_true.2 fun x hx => ?_
    obtain ⟨k, hk, rfl⟩ := List.getElem_of_mem hx
    have := h k (by rw [← HL.out]; exact hk)
    rwa [List.getD_eq_getElem?_getD, List.getElem?_eq_getElem hk] at this
  have HNO : Hid (∀ k, k < n → spanB (l.getD k dp) = false → l.all spanB = false) := fun k hk h => by
    have hk2 : k < l.length := by rw [HL.out]; exact hk
    rw [List.getD_eq_getElem?_getD, List.getElem?_eq_getElem hk2] at h
    cases e : l.all spanB with
    | false => rfl
    | true =>
      have := List.all_eq_true.1 e _ (List.getElem_mem hk2)
      simp only [Option.getD_some] at h
      rw [this] at h
      exact h
  obtain ⟨A, hA⟩ : ∃ A, A = l.all spanB := ⟨_, rfl⟩
  rw [← hA] at HALL HNO ⊢
  clear hA
  have n0 : ((n : Int) == 0) = false := beq_eq_false_iff_ne.2 (by omega)
  have n1 : decide ((64 : Int) < (n : Int)) = false := decide_eq_false (by omega)
  clear hs hl hz
  go_enter Tryd.func24, Tryd.ntmps24
  go_wp2
  go_loopw [17] (fun i wr => ∃ k : Nat, i = .int .i64 k ∧ k ≤ n ∧ Below w.heap.size w wr ∧ (∀ j, j < k → spanB (l.getD j dp) = true)) (fun i _ => n - (intOf i).toNat)
  case atStart => exact ⟨0, rfl, by omega, Below.refl _ _, fun j hj => by omega⟩
  case round =>
    obtain ⟨k, rfl, hk, hbw, hyes⟩ := hrel
    have HW := Lib.hid hbw
    have HY := Lib.hid hyes
    have hz := hbw.size
    clear hbw hyes
    by_cases hlt : k < n
    · obtain ⟨c0, c1⟩ := (HS.out.keep HW.out hg) k (by rw [HL.out]; exact hlt)
      rcases HCC.out k hlt with ⟨hb, c, hc, DX0⟩ | ⟨hb, DX0 | ⟨c, hc, DX0⟩⟩
      · have hall : Hid (∀ j, j < k + 1 → spanB (l.getD j dp) = true) := fun j hj => by
          by_cases e : j = k
          · rw [e]; exact hb
          · exact HY.out j (by omega)
        have qc : decide (0 < c) = false := decide_eq_false (by omega)
        unfold CmpP at DX0
        have DX := Lib.hid DX0
        clear DX0 hc hb
        generalize hx : l.getD k dp = x at *
        clear hx
        obtain ⟨lo, hi⟩ := x
        simp only at c0 c1
        have DW1 := Lib.hid (fun wx => whole_any lo wx)
        have DW2 := Lib.hid (fun wx => whole_any hi wx)
        go_wp2_with fail
        obtain ⟨V, hV⟩ : ∃ V, V = wr.alloc (.cells #[.string lo, .string hi] 76) := ⟨_, rfl⟩
        obtain ⟨s0, s1⟩ := two_box wr (.string lo) (.string hi) 76
        rw [← hV] at s0 s1 ⊢
        have hbV : Below w.heap.size w V := by rw [hV]; exact HW.out.alloc HW.out.size _
        have hzV : wr.heap.size + 1 ≤ V.heap.size := by rw [hV]; simp
        have HBV := Lib.hid hbV
        have S0 := Lib.hid s0
        have S1 := Lib.hid s1
        clear hV hbV
        go_region_held3 (fun w' => w'.cell? ⟨wr.heap.size, 0, none⟩ = some (.string lo) ∧ w'.cell? ⟨wr.heap.size, 1, none⟩ = some (.string hi))
          (first
            | (with_reducible exact ⟨s0, s1⟩)
            | (with_reducible exact ⟨(drew_cell _ _).trans s0, (drew_cell _ _).trans s1⟩)
            | (have t0 := (hA.cell (p := ⟨wr.heap.size, 0, none⟩) (by show wr.heap.size < _; omega)).trans S0.out; have t1 := (hA.cell (p := ⟨wr.heap.size, 1, none⟩) (by show wr.heap.size < _; omega)).trans S1.out; with_reducible exact ⟨t0, t1⟩)
            | (have t0 := (hB.cell (p := ⟨wr.heap.size, 0, none⟩) (by show wr.heap.size < _; omega)).trans S0.out; have t1 := (hB.cell (p := ⟨wr.heap.size, 1, none⟩) (by show wr.heap.size < _; omega)).trans S1.out; with_reducible exact ⟨t0, t1⟩)
            | (have t0 := (hC.cell (p := ⟨wr.heap.size, 0, none⟩) (by show wr.heap.size < _; omega)).trans S0.out; have t1 := (hC.cell (p := ⟨wr.heap.size, 1, none⟩) (by show wr.heap.size < _; omega)).trans S1.out; with_reducible exact ⟨t0, t1⟩))
          (first
            | (go_at_call 13; (with_reducible refine (DX.out _).mono ?_); rintro e wC ⟨rfl, hbC⟩; have hC : Below V.heap.size V wC := hB.trans (hbC.mono hB.size))
            | (go_at_call 44; (with_reducible refine (DW1.out _).mono ?_); rintro e wA ⟨rfl, hbA⟩; have hA : Below V.heap.size V wA := undrew hbA)
            | (go_at_call 44; (with_reducible refine (DW2.out _).mono ?_); rintro e wB ⟨rfl, hbB⟩; have hB : Below V.heap.size V wB := hA.trans (hbB.mono hA.size)))
        have hend := Lib.hid (HBV.out.trans (hC.mono HBV.out.size))
        go_wp2
        go_roundw
        case rel => exact ⟨k + 1, by go_num, by omega, hend.out, hall.out⟩
        case measure => simp [intOf]; omega
      · have hno : Hid (A = false) := HNO.out k hlt hb
        unfold CmpP at DX0
        have DX := Lib.hid DX0
        clear DX0 hb
        generalize hx : l.getD k dp = x at *
        clear hx
        obtain ⟨lo, hi⟩ := x
        simp only at c0 c1
        have DW1 := Lib.hid (fun wx => whole_any lo wx)
        have DW2 := Lib.hid (fun wx => whole_any hi wx)
        go_wp2_with fail
        obtain ⟨V, hV⟩ : ∃ V, V = wr.alloc (.cells #[.string lo, .string hi] 76) := ⟨_, rfl⟩
        obtain ⟨s0, s1⟩ := two_box wr (.string lo) (.string hi) 76
        rw [← hV] at s0 s1 ⊢
        have hbV : Below w.heap.size w V := by rw [hV]; exact HW.out.alloc HW.out.size _
        have hzV : wr.heap.size + 1 ≤ V.heap.size := by rw [hV]; simp
        have HBV := Lib.hid hbV
        have S0 := Lib.hid s0
        have S1 := Lib.hid s1
        clear hV hbV
        go_region_held3 (fun w' => w'.cell? ⟨wr.heap.size, 0, none⟩ = some (.string lo) ∧ w'.cell? ⟨wr.heap.size, 1, none⟩ = some (.string hi))
          (first
            | (with_reducible exact ⟨s0, s1⟩)
            | (with_reducible exact ⟨(drew_cell _ _).trans s0, (drew_cell _ _).trans s1⟩)
            | (have t0 := (hA.cell (p := ⟨wr.heap.size, 0, none⟩) (by show wr.heap.size < _; omega)).trans S0.out; have t1 := (hA.cell (p := ⟨wr.heap.size, 1, none⟩) (by show wr.heap.size < _; omega)).trans S1.out; with_reducible exact ⟨t0, t1⟩)
            | (have t0 := (hB.cell (p := ⟨wr.heap.size, 0, none⟩) (by show wr.heap.size < _; omega)).trans S0.out; have t1 := (hB.cell (p := ⟨wr.heap.size, 1, none⟩) (by show wr.heap.size < _; omega)).trans S1.out; with_reducible exact ⟨t0, t1⟩)
            | (have t0 := (hC.cell (p := ⟨wr.heap.size, 0, none⟩) (by show wr.heap.size < _; omega)).trans S0.out; have t1 := (hC.cell (p := ⟨wr.heap.size, 1, none⟩) (by show wr.heap.size < _; omega)).trans S1.out; with_reducible exact ⟨t0, t1⟩))
          (first
            | (go_at_call 13; (with_reducible refine (DX.out _).mono ?_); rintro e wC ⟨rfl, hbC⟩; have hC : Below V.heap.size V wC := hB.trans (hbC.mono hB.size))
            | (go_at_call 44; (with_reducible refine (DW1.out _).mono ?_); rintro e wA ⟨rfl, hbA⟩; have hA : Below V.heap.size V wA := undrew hbA)
            | (go_at_call 44; (with_reducible refine (DW2.out _).mono ?_); rintro e wB ⟨rfl, hbB⟩; have hB : Below V.heap.size V wB := hA.trans (hbB.mono hA.size)))
        have hend := Lib.hid (HBV.out.trans (hC.mono HBV.out.size))
        go_wp2
        go_ret
        exact ⟨ret_bool hno.out.symm, hend.out⟩
      · have hno : Hid (A = false) := HNO.out k hlt hb
        have qc : decide (0 < c) = true := decide_eq_true hc
        unfold CmpP at DX0
        have DX := Lib.hid DX0
        clear DX0 hc hb
        generalize hx : l.getD k dp = x at *
        clear hx
        obtain ⟨lo, hi⟩ := x
        simp only at c0 c1
        have DW1 := Lib.hid (fun wx => whole_any lo wx)
        have DW2 := Lib.hid (fun wx => whole_any hi wx)
        go_wp2_with fail
        obtain ⟨V, hV⟩ : ∃ V, V = wr.alloc (.cells #[.string lo, .string hi] 76) := ⟨_, rfl⟩
        obtain ⟨s0, s1⟩ := two_box wr (.string lo) (.string hi) 76
        rw [← hV] at s0 s1 ⊢
        have hbV : Below w.heap.size w V := by rw [hV]; exact HW.out.alloc HW.out.size _
        have hzV : wr.heap.size + 1 ≤ V.heap.size := by rw [hV]; simp
        have HBV := Lib.hid hbV
        have S0 := Lib.hid s0
        have S1 := Lib.hid s1
        clear hV hbV
        go_region_held3 (fun w' => w'.cell? ⟨wr.heap.size, 0, none⟩ = some (.string lo) ∧ w'.cell? ⟨wr.heap.size, 1, none⟩ = some (.string hi))
          (first
            | (with_reducible exact ⟨s0, s1⟩)
            | (with_reducible exact ⟨(drew_cell _ _).trans s0, (drew_cell _ _).trans s1⟩)
            | (have t0 := (hA.cell (p := ⟨wr.heap.size, 0, none⟩) (by show wr.heap.size < _; omega)).trans S0.out; have t1 := (hA.cell (p := ⟨wr.heap.size, 1, none⟩) (by show wr.heap.size < _; omega)).trans S1.out; with_reducible exact ⟨t0, t1⟩)
            | (have t0 := (hB.cell (p := ⟨wr.heap.size, 0, none⟩) (by show wr.heap.size < _; omega)).trans S0.out; have t1 := (hB.cell (p := ⟨wr.heap.size, 1, none⟩) (by show wr.heap.size < _; omega)).trans S1.out; with_reducible exact ⟨t0, t1⟩)
            | (have t0 := (hC.cell (p := ⟨wr.heap.size, 0, none⟩) (by show wr.heap.size < _; omega)).trans S0.out; have t1 := (hC.cell (p := ⟨wr.heap.size, 1, none⟩) (by show wr.heap.size < _; omega)).trans S1.out; with_reducible exact ⟨t0, t1⟩))
          (first
            | (go_at_call 13; (with_reducible refine (DX.out _).mono ?_); rintro e wC ⟨rfl, hbC⟩; have hC : Below V.heap.size V wC := hB.trans (hbC.mono hB.size))
            | (go_at_call 44; (with_reducible refine (DW1.out _).mono ?_); rintro e wA ⟨rfl, hbA⟩; have hA : Below V.heap.size V wA := undrew hbA)
            | (go_at_call 44; (with_reducible refine (DW2.out _).mono ?_); rintro e wB ⟨rfl, hbB⟩; have hB : Below V.heap.size V wB := hA.trans (hbB.mono hA.size)))
        have hend := Lib.hid (HBV.out.trans (hC.mono HBV.out.size))
        go_wp2
        go_ret
        exact ⟨ret_bool hno.out.symm, hend.out⟩
    · have hA1 : A = true := HALL.out fun j hj => HY.out j (by omega)
      go_wp2
      go_ret
      exact ⟨ret_bool hA1.symm, HW.out⟩
end
section
open Go.RowKit
attribute [local go_sem ↓] Go.wp_at_zero Go.wp_at_succ

set_option maxRecDepth 100000 in
theorem isList_none (a : Option Addr) (cap : Nat) (w : World) : Calls Tryd.prog 24 #[.slice a 0 cap] w fun e w' => e = .returned (.bool false) ∧ Below w.heap.size w w' := by
  go_enter Tryd.func24, Tryd.ntmps24
  go_wp2
  go_ret
  exact ⟨rfl, Below.refl _ _⟩
set_option maxRecDepth 100000 in
theorem isList_many (a : Option Addr) (n cap : Nat) (w : World) (h : 64 < n) : Calls Tryd.prog 24 #[.slice a n cap] w fun e w' => e = .returned (.bool false) ∧ Below w.heap.size w w' := by
  have n0 : ((n : Int) == 0) = false := beq_eq_false_iff_ne.2 (by omega)
  have n1 : decide ((64 : Int) < (n : Int)) = true := decide_eq_true (by omega)
  go_enter Tryd.func24, Tryd.ntmps24
  go_wp2
  go_ret
  exact ⟨rfl, Below.refl _ _⟩
/-- Does a number lie in one of the spans? -/
def hitB (r : Dc) (l : List (ByteArray × ByteArray)) : Bool := decide (∃ k, k < l.length ∧ decide (cmpD (spD (l.getD k dp).1) r ≤ 0) = true ∧ decide (cmpD r (spD (l.getD k dp).2) ≤ 0) = true)
def inB (r : Dc) (within : Bool) (l : List (ByteArray × ByteArray)) : Bool := (within || decide (r.f = [])) && hitB r l
def relV (rO rM : ByteArray) (rN rW : Bool) (sv : Value) : Value := .agg #[.string rO, .string rM, .bool rN, .bool rW, sv]
theorem span_ok {x : ByteArray × ByteArray} (h : spanB x = true) : (spD x.1).Ok ∧ (spD x.2).Ok ∧ dStr (spD x.1).i = x.1 ∧ dStr (spD x.2).i = x.2 := by
  unfold spanB at h
  simp only [Bool.and_eq_true] at h
  obtain ⟨a1, a2⟩ := num_form h.1.1
  obtain ⟨b1, b2⟩ := num_form h.1.2
  exact ⟨a1, b1, a2.symm, b2.symm⟩
theorem listB_at {l : List (ByteArray × ByteArray)} (h : listB l = true) (k : Nat) (hk : k < l.length) : spanB (l.getD k dp) = true := by
  unfold listB at h
  simp only [Bool.and_eq_true] at h
  rw [List.getD_eq_getElem?_getD, List.getElem?_eq_getElem hk]
  exact List.all_eq_true.1 h.2 _ (List.getElem_mem hk)
section
variable (on : Bool) (oi oj oI : ByteArray) (oV oW : Int) (oG oT : ByteArray) (oX : Int) (rO rM : ByteArray) (rN rW : Bool)
/-- The program's In of any relation with a list that may be. -/
theorem in_yes (r : Dc) (hr : r.Ok) (HM : ModP (.agg #[.bool on, .string oi, .string oj, .string oI, .int .i64 oV, .int .i64 oW, .string oG, .string oT, .int .i64 oX]) rO rM (decR r 0))
    (l : List (ByteArray × ByteArray)) (g n cap : Nat) (w : World) (hs : Spn w g l) (hg : g < w.heap.size) (hl : l.length = n) (hB : listB l = true)
    (hz : ∀ k, k < n → (l.getD k dp).1.size ≤ 140737488355328 ∧ (l.getD k dp).2.size ≤ 140737488355328) :
    Calls Tryd.prog 10 #[.agg #[.bool on, .string oi, .string oj, .string oI, .int .i64 oV, .int .i64 oW, .string oG, .string oT, .int .i64 oX], relV rO rM rN rW (.slice (some ⟨g, 0, none⟩) n cap)] w fun e w' => e = .returned (.tuple #[.bool (inB r rW l != rN), .int .i64 0]) ∧ Below w.heap.size w w' := by
  have hB' := hB
  unfold listB at hB'
  simp only [Bool.and_eq_true, decide_eq_true_eq] at hB'
  obtain ⟨⟨b1, b2⟩, b3⟩ := hB'
  have HL : ∀ wx : World, Below w.heap.size w wx → Calls Tryd.prog 24 #[.slice (some ⟨g, 0, none⟩) n cap] wx fun e w' => e = .returned (.bool true) ∧ Below wx.heap.size wx w' := fun wx hb => by
    have := isList_some l g n cap wx (hs.keep hb hg) (by have := hb.size; omega) hl (by omega) (by omega) hz
    rwa [b3] at this
  have A1 : ∀ k, k < n → ∀ wx : World, Calls Tryd.prog 45 #[.agg #[.bool false, .string (l.getD k dp).1, .string ⟨#[]⟩], .agg #[.bool r.neg, .string (dStr r.i), .string (dStr r.f)]] wx fun e w' => e = .returned (.bool (decide (cmpD (spD (l.getD k dp).1) r ≤ 0))) ∧ Below wx.heap.size wx w' := fun k hk wx => by
    obtain ⟨o1, o2, o3, o4⟩ := span_ok (listB_at hB k (by omega))
    have := isAtMost_any (spD (l.getD k dp).1) r wx o1 hr
    rw [o3] at this
    exact this
  have A2 : ∀ k, k < n → ∀ wx : World, Calls Tryd.prog 45 #[.agg #[.bool r.neg, .string (dStr r.i), .string (dStr r.f)], .agg #[.bool false, .string (l.getD k dp).2, .string ⟨#[]⟩]] wx fun e w' => e = .returned (.bool (decide (cmpD r (spD (l.getD k dp).2) ≤ 0))) ∧ Below wx.heap.size wx w' := fun k hk wx => by
    obtain ⟨o1, o2, o3, o4⟩ := span_ok (listB_at hB k (by omega))
    have := isAtMost_any r (spD (l.getD k dp).2) wx hr o2
    rw [o4] at this
    exact this
  refine in_go (b := inB r rW l) (rN := rN) (H1 := HM) (H2 := HL) (H3 := fun wv hb => ?_) (w := w)
  unfold inB hitB
  rw [hl]
  cases rW with
  | true =>
    rw [Bool.true_or, Bool.true_and]
    exact isIn_within r.neg (dStr r.i) (dStr r.f) rO rM rN l g n cap _ _ wv (hs.keep hb hg) (by have := hb.size; omega) hl (by omega) A1 A2
  | false =>
    rw [Bool.false_or]
    by_cases hf : r.f = []
    · rw [decide_eq_true hf, Bool.true_and]
      have e : dStr r.f = ⟨#[]⟩ := by rw [hf]; rfl
      rw [e] at A1 A2 ⊢
      exact isIn_whole r.neg (dStr r.i) rO rM rN l g n cap _ _ wv (hs.keep hb hg) (by have := hb.size; omega) hl (by omega) A1 A2
    · rw [decide_eq_false hf, Bool.false_and]
      exact isIn_frac _ _ _ _ _ _ _ wv (by rw [dStr_size]; intro e; exact hf (List.eq_nil_of_length_eq_zero e))
theorem in_no (r : Dc) (HM : ModP (.agg #[.bool on, .string oi, .string oj, .string oI, .int .i64 oV, .int .i64 oW, .string oG, .string oT, .int .i64 oX]) rO rM (decR r 0))
    (l : List (ByteArray × ByteArray)) (g n cap : Nat) (w : World) (hs : Spn w g l) (hg : g < w.heap.size) (hl : l.length = n) (hB : listB l = false)
    (hz : ∀ k, k < n → (l.getD k dp).1.size ≤ 140737488355328 ∧ (l.getD k dp).2.size ≤ 140737488355328) :
    Calls Tryd.prog 10 #[.agg #[.bool on, .string oi, .string oj, .string oI, .int .i64 oV, .int .i64 oW, .string oG, .string oT, .int .i64 oX], relV rO rM rN rW (.slice (some ⟨g, 0, none⟩) n cap)] w fun e w' => e = .returned (.tuple #[.bool false, .int .i64 40]) ∧ Below w.heap.size w w' := by
  refine in_list (rN := rN) (rW := rW) (H1 := HM) (H2 := fun wx hb => ?_) (w := w)
  by_cases h0 : n = 0
  · subst h0; exact isList_none _ _ wx
  by_cases h64 : 64 < n
  · exact isList_many _ _ _ wx h64
  have := isList_some l g n cap wx (hs.keep hb hg) (by have := hb.size; omega) hl (by omega) (by omega) hz
  unfold listB at hB
  rw [decide_eq_true (by omega), decide_eq_true (by omega), Bool.true_and, Bool.true_and] at hB
  rwa [hB] at this
end
end
end Go.Proofs.YtmggdnnffdaffaaDoor
