/- Of of the program. -/
import Derived.Test.YtpbljcjghjbjdaaDoorDSum
import Derived.Lib.EndianBits
namespace Go.Proofs.YtpbljcjghjbjdaaDoor
open Go.RowKit
attribute [local go_sem ↓] Go.wp_at_zero Go.wp_at_succ

def Blk8 (w : World) (g : Nat) (cs : List Value) : Prop := w.heap[g]? = some (.cells cs.toArray 75 (0, 0))
theorem Blk8.cell {w : World} {g : Nat} {cs : List Value} (h : Blk8 w g cs) (i : Nat) : w.cell? ⟨g, i, none⟩ = cs[i]? := by
  rw [cell_of_row w g i _ _ (0, 0) h]; simp
theorem Blk8.frozen {w : World} {g : Nat} {cs : List Value} (h : Blk8 w g cs) (i : Nat) : w.frozen? ⟨g, i, none⟩ = false := by
  unfold Blk8 at h
  simp [World.frozen?, h]
theorem Blk8.new (w : World) (cs : List Value) (a : Array Value) (ha : a = cs.toArray) : Blk8 (w.alloc (.cells a 75)) w.heap.size cs := by rw [ha]; exact heap_alloc_new w _
theorem Blk8.set_ {w : World} {g : Nat} {cs : List Value} (h : Blk8 w g cs) (i : Nat) (u : Value) : Blk8 (w.setCell ⟨g, i, none⟩ u) g (cs.set i u) := by
  unfold Blk8 at h ⊢
  simp [World.setCell, Array.getElem?_modify, h]
theorem run_string8 (w : World) (g off n cap : Nat) (Q : List Nat) (S : ByteArray) (hS : S = dStr Q) (hl : Q.length = n) (hQ : Digs Q) (hc : ∀ j, j < n → w.cell? ⟨g, off + j, none⟩ = (nC (Q.map (48 + ·)))[j]?) :
    (convert 76 9 (.slice (some ⟨g, off, none⟩) n cap)).run Tryd.prog w = .ok (.string S) w := by
  have e : (dB Q).length = n := by rw [dB_len, hl]
  have := run_convert_bytes_back (P := Tryd.prog) w 76 9 5 ⟨g, off, none⟩ cap (dB Q) Tryd.underlying76 Tryd.underlying5 Tryd.underlying9 (by
    intro j hj
    have hj' : j < n := by rw [e] at hj; exact hj
    have hadd : (⟨g, off, none⟩ : Addr).add j = ⟨g, off + j, none⟩ := by unfold Addr.add; split <;> simp_all
    rw [hadd, hc j hj', ← byte_cells_of Q hQ]
    unfold Lib.byteCells
    rw [List.getElem?_map, List.getElem?_eq_getElem hj]
    simp)
  rw [e] at this
  rw [this, hS]
  rfl
theorem sizeOf_byte (W : World) : (sizeOf 5).run Tryd.prog W = .ok 1 W := by
  have h := bytes_size
  go_simp
theorem slice8 (g b l : Nat) (hb : b < 20) (hl : l = 20 - b) (W : World) : (Instr.sliceAt 75 (.pointer (some ⟨g, 0, none⟩)) (some (.int .i64 (b : Int))) none none).run Tryd.prog W = .ok (.slice (some ⟨g, b, none⟩) l l) W := by
  have hal : Program.arrayLen Tryd.prog 75 = 20 := by kernel_rfl
  rw [run_sliceAt_array_l W 75 ⟨g, 0, none⟩ (by kernel_rfl) .i64 (b : Int) (by omega) (by rw [hal]; omega)]
  rw [hal]
  have hel : Program.elem Tryd.prog 75 = 5 := by kernel_rfl
  rw [hel, sizeOf_byte]
  show Result.ok (slicedAt _ _ _ _ _) W = _
  unfold slicedAt
  rw [Int.toNat_natCast, ← hl, if_neg (by omega)]
  simp [Addr.add]
  omega
def dz (v : Nat) : List Nat := if v = 0 then [] else digs v
theorem dz_pos {v : Nat} (h : 0 < v) : dz v = digs v := if_neg (by omega)
theorem dz_step (v : Nat) : digs v = dz (v / 10) ++ [v % 10] := by
  by_cases h : v < 10
  · rw [show v / 10 = 0 by omega, show v % 10 = v by omega]
    unfold digs
    rw [digsR_small h]
    rfl
  · rw [dz_pos (by omega), ← digs_snoc (by omega) (by omega)]
    congr 1
    omega

set_option maxHeartbeats 2000000 in
set_option maxRecDepth 100000 in
theorem of_false (n : Int) (w : World) (hn : 0 ≤ n) (hl : n ≤ 9223372036854775807) :
    Calls Tryd.prog 12 #[.int .i64 n] w fun e w' => e = .returned (.agg #[.bool false, .string (dStr (digs n.natAbs)), .string ⟨#[]⟩]) ∧ Below w.heap.size w w' := by
  obtain ⟨N, hN⟩ : ∃ N : Nat, N = n.natAbs := ⟨_, rfl⟩
  have hNM : N ≤ 9223372036854775808 := by omega
  have v1 : IntKind.u64.wrap n = (N : Int) := by rw [IntKind.wrap_u64]; omega
  have qn : decide (n < 0) = false := decide_eq_false (by omega)
  have hlt : n < 0 ↔ False := by simp; omega
  rw [← hN]
  have L20 : (digs N).length ≤ 20 := (digs_le N 20 (by omega)).2 (by omega)
  have HL20 := Lib.hid L20
  have HB0 := Lib.hid (((Below.refl _ w).alloc (Nat.le_refl _) (.cells #[.bool false, .string ⟨#[]⟩, .string ⟨#[]⟩] 23)).alloc (by simp) (.cells (nC (List.replicate 20 0)).toArray 75))
  have HR0 : Hid (((w.alloc (.cells #[.bool false, .string ⟨#[]⟩, .string ⟨#[]⟩] 23)).alloc (.cells (nC (List.replicate 20 0)).toArray 75)).heap[w.heap.size]? = some (.cells #[.bool false, .string ⟨#[]⟩, .string ⟨#[]⟩] 23 (0, 0))) := by
    show _ = _
    rw [Below.heap_alloc _ _ _ (by simp)]
    exact heap_alloc_new w _
  have K0 : Hid (Blk8 ((w.alloc (.cells #[.bool false, .string ⟨#[]⟩, .string ⟨#[]⟩] 23)).alloc (.cells (nC (List.replicate 20 0)).toArray 75)) (w.heap.size + 1) (nC (List.replicate 20 0))) := by
    have := Blk8.new (w.alloc (.cells #[.bool false, .string ⟨#[]⟩, .string ⟨#[]⟩] 23)) (nC (List.replicate 20 0)) _ rfl
    rw [show (w.alloc (.cells #[.bool false, .string ⟨#[]⟩, .string ⟨#[]⟩] 23)).heap.size = w.heap.size + 1 by simp] at this
    exact this
  clear hN hl L20
  go_enter Tryd.func12, Tryd.ntmps12
  go_wp2
  go_loopw [3, 5] (fun sz i wr => ∃ (b v : Nat) (ds : List Nat), i = .int .i64 (b : Int) ∧ sz = .int .u64 (v : Int) ∧ b + ds.length = 20 ∧ (ds.length = 0 → v = N ∧ ds = []) ∧ (1 ≤ ds.length → digs N = dz v ++ ds) ∧ v ≤ 18446744073709551615 ∧ Blk8 wr (w.heap.size + 1) (nC (List.replicate b 0 ++ ds.map (48 + ·))) ∧ Below w.heap.size w wr ∧ wr.heap[w.heap.size]? = some (.cells #[.bool false, .string ⟨#[]⟩, .string ⟨#[]⟩] 23 (0, 0))) (fun _ i _ => (intOf i).toNat)
  case atStart => exact ⟨20, N, [], rfl, rfl, rfl, fun _ => ⟨rfl, rfl⟩, fun h => absurd h (by simp), by omega, K0.out, HB0.out, HR0.out⟩
  case round =>
    obtain ⟨b, v, ds, rfl, rfl, hbl, hz, hs, hvM, hB, hbw, hR⟩ := hrel
    have HBL := Lib.hid hbl
    have HZ := Lib.hid hz
    have HS := Lib.hid hs
    have HB := Lib.hid hB
    have hf := fun i => hB.frozen i
    have HW := Lib.hid hbw
    have HR := Lib.hid hR
    have hb20 : b ≤ 20 := by omega
    clear hbl hz hs hB hbw hR
    by_cases hgo : b = 20 ∨ 0 < v
    · have hb0 : 0 < b := by
        rcases hgo with h | h
        · omega
        · have := HBL.out
          by_cases e : 1 ≤ ds.length
          · have h2 := congrArg List.length (HS.out e)
            rw [List.length_append, dz_pos h] at h2
            have h3 := digs_len v
            have h4 := HL20.out
            omega
          · omega
      obtain ⟨m, rfl⟩ : ∃ m, b = m + 1 := ⟨b - 1, by omega⟩
      obtain ⟨r, hr⟩ : ∃ r, r = v % 10 := ⟨_, rfl⟩
      obtain ⟨t, ht⟩ : ∃ t, t = v / 10 := ⟨_, rfl⟩
      have HSTEP : Hid (digs N = dz t ++ r :: ds) := by
        show _ = _
        rw [hr, ht]
        by_cases e : 1 ≤ ds.length
        · have h0 : 0 < v := by
            rcases hgo with h | h
            · have := HBL.out; omega
            · exact h
          rw [HS.out e, dz_pos h0, dz_step v]
          simp
        · obtain ⟨e1, e2⟩ := HZ.out (by omega)
          rw [e2, ← e1]
          exact dz_step v
      have hr9 : r ≤ 9 := by omega
      have ht1 : t ≤ 1844674407370955161 := by omega
      have d1 : (v : Int).tmod 10 = (r : Int) := by rw [Int.tmod_eq_emod_of_nonneg (by omega)]; omega
      have d2 : (v : Int).tdiv 10 = (t : Int) := by rw [Int.tdiv_eq_ediv_of_nonneg (by omega)]; omega
      have d3 : v % 10 = r := hr.symm
      have d4 : v / 10 = t := ht.symm
      have d5 : (v : Int) % 10 = (r : Int) := by omega
      have d6 : (v : Int) / 10 = (t : Int) := by omega
      have c2 : wr.cell? ⟨w.heap.size + 1, m, none⟩ = some (.int .u8 ((0 : Nat) : Int)) := by
        rw [HB.out.cell, nC_get _ _ (by simp; omega), List.replicate_succ', List.append_assoc, List.singleton_append, get_mid _ _ _ _ (by simp)]
      have HHR := Lib.hid hr
      have HHT := Lib.hid ht
      clear hr ht
      have wr1 : IntKind.u8.wrap (r : Int) = r := IntWalk.u8_in _ (by omega)
      have hq : m = 19 ∨ m ≠ 19 ∧ 0 < v := by omega
      clear hgo
      rcases hq with hm | ⟨hm, hv⟩
      · have q1 : (((m : Int) + 1) == 20) = true := by simp; omega
        have HM := Lib.hid hm
        clear hm
        go_wp2
        go_roundw
        case rel =>
          refine ⟨m, t, r :: ds, rfl, by go_num, by have := HBL.out; rw [List.length_cons]; omega, ?_, fun _ => HSTEP.out, by omega, ?_, ?_, ?_⟩
          · intro h; exact absurd h (by simp)
          · have := HB.out.set_ m (.int .u8 ((48 + r : Nat) : Int))
            rw [nC_set, List.replicate_succ', List.append_assoc, List.singleton_append, set_mid _ _ _ _ _ (by simp)] at this
            exact this
          · exact HW.out.setCell (p := ⟨w.heap.size + 1, m, none⟩) (Nat.le_succ _) _
          · rw [Below.heap_setCell _ _ _ _ (by show w.heap.size ≠ w.heap.size + 1; omega)]
            exact HR.out
        case measure => simp [intOf]
      · have q1 : (((m : Int) + 1) == 20) = false := by rw [beq_eq_false_iff_ne]; omega
        have HM := Lib.hid hm
        clear hm
        go_wp2
        go_roundw
        case rel =>
          refine ⟨m, t, r :: ds, rfl, by go_num, by have := HBL.out; rw [List.length_cons]; omega, ?_, fun _ => HSTEP.out, by omega, ?_, ?_, ?_⟩
          · intro h; exact absurd h (by simp)
          · have := HB.out.set_ m (.int .u8 ((48 + r : Nat) : Int))
            rw [nC_set, List.replicate_succ', List.append_assoc, List.singleton_append, set_mid _ _ _ _ _ (by simp)] at this
            exact this
          · exact HW.out.setCell (p := ⟨w.heap.size + 1, m, none⟩) (Nat.le_succ _) _
          · rw [Below.heap_setCell _ _ _ _ (by show w.heap.size ≠ w.heap.size + 1; omega)]
            exact HR.out
        case measure => simp [intOf]
    · have hv0 : v = 0 := by omega
      subst hv0
      have q1 : ((b : Int) == 20) = false := by rw [beq_eq_false_iff_ne]; omega
      have HD : Hid (digs N = ds) := by
        show _ = _
        rw [HS.out (by have := HBL.out; omega)]
        rfl
      have HDD : Hid (Digs ds) := by have := digs_digs N; rw [HD.out] at this; exact this
      obtain ⟨S, hS⟩ : ∃ S, S = dStr ds := ⟨_, rfl⟩
      have HS1 := Lib.hid hS
      obtain ⟨l, hl⟩ : ∃ l, l = 20 - b := ⟨_, rfl⟩
      have hlb : (20 : Int) - (b : Int) = (l : Int) := by omega
      have kc := run_string8 wr (w.heap.size + 1) b l l ds S hS (by have := HBL.out; omega) HDD.out (fun j hj => by
        rw [HB.out.cell, nC_append, List.getElem?_append_right (by rw [nC_len]; simp), nC_len]
        simp)
      have r0 : wr.cell? ⟨w.heap.size, 0, none⟩ = some (.bool false) := by rw [cell_of_row wr w.heap.size 0 _ _ _ HR.out]; rfl
      have r1 : wr.cell? ⟨w.heap.size, 1, none⟩ = some (.string ⟨#[]⟩) := by rw [cell_of_row wr w.heap.size 1 _ _ _ HR.out]; rfl
      have r2 : wr.cell? ⟨w.heap.size, 2, none⟩ = some (.string ⟨#[]⟩) := by rw [cell_of_row wr w.heap.size 2 _ _ _ HR.out]; rfl
      have z0 : ∀ i, wr.frozen? ⟨w.heap.size, i, none⟩ = false := fun i => by simp [World.frozen?, HR.out]
      obtain ⟨e0, e1, e2⟩ := res_cells r0 r1 r2 (.bool false) (.string S) (.string ⟨#[]⟩)
      have hlt2 : w.heap.size < wr.heap.size := by have := HW.out.size; rcases Nat.lt_or_ge w.heap.size wr.heap.size with h | h; exact h; have h2 := HR.out; rw [Array.getElem?_eq_none h] at h2; cases h2
      have HBl := Lib.hid (res_below HW.out (Nat.le_refl _) (.bool false) (.string S) (.string ⟨#[]⟩))
      have hsl := slice8 (w.heap.size + 1) b l (by have := HBL.out; omega) hl
      have HL := Lib.hid hl
      clear hS hl hgo
      go_wp2
      exact bodyPost_ret (v := .agg #[.bool false, .string S, .string ⟨#[]⟩]) (by simp [results, Tryd.results12, go_sem, e0, e1, e2]) rfl ⟨by rw [HD.out, HS1.out], HBl.out⟩

set_option maxHeartbeats 2000000 in
set_option maxRecDepth 100000 in
theorem of_true (n : Int) (w : World) (hn : n < 0) (hl : -9223372036854775808 ≤ n) :
    Calls Tryd.prog 12 #[.int .i64 n] w fun e w' => e = .returned (.agg #[.bool true, .string (dStr (digs n.natAbs)), .string ⟨#[]⟩]) ∧ Below w.heap.size w w' := by
  obtain ⟨N, hN⟩ : ∃ N : Nat, N = n.natAbs := ⟨_, rfl⟩
  have hNM : N ≤ 9223372036854775808 := by omega
  have v1 : IntKind.u64.wrap (-(IntKind.u64.wrap n)) = (N : Int) := by rw [IntKind.wrap_u64, IntKind.wrap_u64]; omega
  have qn : decide (n < 0) = true := decide_eq_true hn
  have hlt : n < 0 ↔ True := by simp [hn]
  rw [← hN]
  have L20 : (digs N).length ≤ 20 := (digs_le N 20 (by omega)).2 (by omega)
  have HL20 := Lib.hid L20
  have HB0 := Lib.hid (((Below.refl _ w).alloc (Nat.le_refl _) (.cells #[.bool false, .string ⟨#[]⟩, .string ⟨#[]⟩] 23)).alloc (by simp) (.cells (nC (List.replicate 20 0)).toArray 75))
  have HR0 : Hid (((w.alloc (.cells #[.bool false, .string ⟨#[]⟩, .string ⟨#[]⟩] 23)).alloc (.cells (nC (List.replicate 20 0)).toArray 75)).heap[w.heap.size]? = some (.cells #[.bool false, .string ⟨#[]⟩, .string ⟨#[]⟩] 23 (0, 0))) := by
    show _ = _
    rw [Below.heap_alloc _ _ _ (by simp)]
    exact heap_alloc_new w _
  have K0 : Hid (Blk8 ((w.alloc (.cells #[.bool false, .string ⟨#[]⟩, .string ⟨#[]⟩] 23)).alloc (.cells (nC (List.replicate 20 0)).toArray 75)) (w.heap.size + 1) (nC (List.replicate 20 0))) := by
    have := Blk8.new (w.alloc (.cells #[.bool false, .string ⟨#[]⟩, .string ⟨#[]⟩] 23)) (nC (List.replicate 20 0)) _ rfl
    rw [show (w.alloc (.cells #[.bool false, .string ⟨#[]⟩, .string ⟨#[]⟩] 23)).heap.size = w.heap.size + 1 by simp] at this
    exact this
  clear hN hl L20
  go_enter Tryd.func12, Tryd.ntmps12
  go_wp2
  go_loopw [3, 5] (fun sz i wr => ∃ (b v : Nat) (ds : List Nat), i = .int .i64 (b : Int) ∧ sz = .int .u64 (v : Int) ∧ b + ds.length = 20 ∧ (ds.length = 0 → v = N ∧ ds = []) ∧ (1 ≤ ds.length → digs N = dz v ++ ds) ∧ v ≤ 18446744073709551615 ∧ Blk8 wr (w.heap.size + 1) (nC (List.replicate b 0 ++ ds.map (48 + ·))) ∧ Below w.heap.size w wr ∧ wr.heap[w.heap.size]? = some (.cells #[.bool false, .string ⟨#[]⟩, .string ⟨#[]⟩] 23 (0, 0))) (fun _ i _ => (intOf i).toNat)
  case atStart => exact ⟨20, N, [], rfl, rfl, rfl, fun _ => ⟨rfl, rfl⟩, fun h => absurd h (by simp), by omega, K0.out, HB0.out, HR0.out⟩
  case round =>
    obtain ⟨b, v, ds, rfl, rfl, hbl, hz, hs, hvM, hB, hbw, hR⟩ := hrel
    have HBL := Lib.hid hbl
    have HZ := Lib.hid hz
    have HS := Lib.hid hs
    have HB := Lib.hid hB
    have hf := fun i => hB.frozen i
    have HW := Lib.hid hbw
    have HR := Lib.hid hR
    have hb20 : b ≤ 20 := by omega
    clear hbl hz hs hB hbw hR
    by_cases hgo : b = 20 ∨ 0 < v
    · have hb0 : 0 < b := by
        rcases hgo with h | h
        · omega
        · have := HBL.out
          by_cases e : 1 ≤ ds.length
          · have h2 := congrArg List.length (HS.out e)
            rw [List.length_append, dz_pos h] at h2
            have h3 := digs_len v
            have h4 := HL20.out
            omega
          · omega
      obtain ⟨m, rfl⟩ : ∃ m, b = m + 1 := ⟨b - 1, by omega⟩
      obtain ⟨r, hr⟩ : ∃ r, r = v % 10 := ⟨_, rfl⟩
      obtain ⟨t, ht⟩ : ∃ t, t = v / 10 := ⟨_, rfl⟩
      have HSTEP : Hid (digs N = dz t ++ r :: ds) := by
        show _ = _
        rw [hr, ht]
        by_cases e : 1 ≤ ds.length
        · have h0 : 0 < v := by
            rcases hgo with h | h
            · have := HBL.out; omega
            · exact h
          rw [HS.out e, dz_pos h0, dz_step v]
          simp
        · obtain ⟨e1, e2⟩ := HZ.out (by omega)
          rw [e2, ← e1]
          exact dz_step v
      have hr9 : r ≤ 9 := by omega
      have ht1 : t ≤ 1844674407370955161 := by omega
      have d1 : (v : Int).tmod 10 = (r : Int) := by rw [Int.tmod_eq_emod_of_nonneg (by omega)]; omega
      have d2 : (v : Int).tdiv 10 = (t : Int) := by rw [Int.tdiv_eq_ediv_of_nonneg (by omega)]; omega
      have d3 : v % 10 = r := hr.symm
      have d4 : v / 10 = t := ht.symm
      have d5 : (v : Int) % 10 = (r : Int) := by omega
      have d6 : (v : Int) / 10 = (t : Int) := by omega
      have c2 : wr.cell? ⟨w.heap.size + 1, m, none⟩ = some (.int .u8 ((0 : Nat) : Int)) := by
        rw [HB.out.cell, nC_get _ _ (by simp; omega), List.replicate_succ', List.append_assoc, List.singleton_append, get_mid _ _ _ _ (by simp)]
      have HHR := Lib.hid hr
      have HHT := Lib.hid ht
      clear hr ht
      have wr1 : IntKind.u8.wrap (r : Int) = r := IntWalk.u8_in _ (by omega)
      have hq : m = 19 ∨ m ≠ 19 ∧ 0 < v := by omega
      clear hgo
      rcases hq with hm | ⟨hm, hv⟩
      · have q1 : (((m : Int) + 1) == 20) = true := by simp; omega
        have HM := Lib.hid hm
        clear hm
        go_wp2
        go_roundw
        case rel =>
          refine ⟨m, t, r :: ds, rfl, by go_num, by have := HBL.out; rw [List.length_cons]; omega, ?_, fun _ => HSTEP.out, by omega, ?_, ?_, ?_⟩
          · intro h; exact absurd h (by simp)
          · have := HB.out.set_ m (.int .u8 ((48 + r : Nat) : Int))
            rw [nC_set, List.replicate_succ', List.append_assoc, List.singleton_append, set_mid _ _ _ _ _ (by simp)] at this
            exact this
          · exact HW.out.setCell (p := ⟨w.heap.size + 1, m, none⟩) (Nat.le_succ _) _
          · rw [Below.heap_setCell _ _ _ _ (by show w.heap.size ≠ w.heap.size + 1; omega)]
            exact HR.out
        case measure => simp [intOf]
      · have q1 : (((m : Int) + 1) == 20) = false := by rw [beq_eq_false_iff_ne]; omega
        have HM := Lib.hid hm
        clear hm
        go_wp2
        go_roundw
        case rel =>
          refine ⟨m, t, r :: ds, rfl, by go_num, by have := HBL.out; rw [List.length_cons]; omega, ?_, fun _ => HSTEP.out, by omega, ?_, ?_, ?_⟩
          · intro h; exact absurd h (by simp)
          · have := HB.out.set_ m (.int .u8 ((48 + r : Nat) : Int))
            rw [nC_set, List.replicate_succ', List.append_assoc, List.singleton_append, set_mid _ _ _ _ _ (by simp)] at this
            exact this
          · exact HW.out.setCell (p := ⟨w.heap.size + 1, m, none⟩) (Nat.le_succ _) _
          · rw [Below.heap_setCell _ _ _ _ (by show w.heap.size ≠ w.heap.size + 1; omega)]
            exact HR.out
        case measure => simp [intOf]
    · have hv0 : v = 0 := by omega
      subst hv0
      have q1 : ((b : Int) == 20) = false := by rw [beq_eq_false_iff_ne]; omega
      have HD : Hid (digs N = ds) := by
        show _ = _
        rw [HS.out (by have := HBL.out; omega)]
        rfl
      have HDD : Hid (Digs ds) := by have := digs_digs N; rw [HD.out] at this; exact this
      obtain ⟨S, hS⟩ : ∃ S, S = dStr ds := ⟨_, rfl⟩
      have HS1 := Lib.hid hS
      obtain ⟨l, hl⟩ : ∃ l, l = 20 - b := ⟨_, rfl⟩
      have hlb : (20 : Int) - (b : Int) = (l : Int) := by omega
      have kc := run_string8 wr (w.heap.size + 1) b l l ds S hS (by have := HBL.out; omega) HDD.out (fun j hj => by
        rw [HB.out.cell, nC_append, List.getElem?_append_right (by rw [nC_len]; simp), nC_len]
        simp)
      have r0 : wr.cell? ⟨w.heap.size, 0, none⟩ = some (.bool false) := by rw [cell_of_row wr w.heap.size 0 _ _ _ HR.out]; rfl
      have r1 : wr.cell? ⟨w.heap.size, 1, none⟩ = some (.string ⟨#[]⟩) := by rw [cell_of_row wr w.heap.size 1 _ _ _ HR.out]; rfl
      have r2 : wr.cell? ⟨w.heap.size, 2, none⟩ = some (.string ⟨#[]⟩) := by rw [cell_of_row wr w.heap.size 2 _ _ _ HR.out]; rfl
      have z0 : ∀ i, wr.frozen? ⟨w.heap.size, i, none⟩ = false := fun i => by simp [World.frozen?, HR.out]
      obtain ⟨e0, e1, e2⟩ := res_cells r0 r1 r2 (.bool true) (.string S) (.string ⟨#[]⟩)
      have hlt2 : w.heap.size < wr.heap.size := by have := HW.out.size; rcases Nat.lt_or_ge w.heap.size wr.heap.size with h | h; exact h; have h2 := HR.out; rw [Array.getElem?_eq_none h] at h2; cases h2
      have HBl := Lib.hid (res_below HW.out (Nat.le_refl _) (.bool true) (.string S) (.string ⟨#[]⟩))
      have hsl := slice8 (w.heap.size + 1) b l (by have := HBL.out; omega) hl
      have HL := Lib.hid hl
      clear hS hl hgo
      go_wp2
      exact bodyPost_ret (v := .agg #[.bool true, .string S, .string ⟨#[]⟩]) (by simp [results, Tryd.results12, go_sem, e0, e1, e2]) rfl ⟨by rw [HD.out, HS1.out], HBl.out⟩

end Go.Proofs.YtpbljcjghjbjdaaDoor
