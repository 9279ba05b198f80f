/- DecimalInts: whole numbers there and back. -/
import Derived.Test.YtohppejblbeemaaDMoves
import Derived.Test.YtohppejblbeemaaDInt
import Derived.Test.YtohppejblbeemaaDOf
import Derived.Test.YtohppejblbeemaaDAwake
import Derived.Test.YtohppejblbeemaaDSum
namespace Go.Proofs.Ytohppejblbeemaa
open Go.RowKit

set_option maxHeartbeats 4000000 in
set_option maxRecDepth 100000 in
theorem ints_bad (k : Int) (dn on : Bool) (di df oi : ByteArray) (w : World) (c : Int) (H1 : ∀ wx : World, Calls Try.prog 42 #[.int .i64 k] wx fun e w' => e = .returned (.agg #[.bool on, .string oi, .string ⟨#[]⟩]) ∧ Below wx.heap.size wx w') (H2 : ∀ wx : World, Calls Try.prog 43 #[(.agg #[.bool on, .string oi, .string ⟨#[]⟩])] wx fun e w' => e = .returned (.tuple #[.int .i64 k, .int .i64 0]) ∧ Below wx.heap.size wx w') (H3 : ∀ wx : World, Calls Try.prog 16 #[(.agg #[.bool on, .string oi, .string ⟨#[]⟩])] wx fun e w' => e = .returned (.int .i64 0) ∧ Below wx.heap.size wx w') (H4 : ∀ wx : World, Calls Try.prog 43 #[(.agg #[.bool dn, .string di, .string df])] wx fun e w' => e = .returned (.tuple #[.int .i64 0, .int .i64 c]) ∧ Below wx.heap.size wx w') (hc : c ≠ 0) :
    Calls Try.prog 13 #[.int .i64 k, (.agg #[.bool dn, .string di, .string df])] w fun e w' => e = .returned (.bool true) ∧ Below w.heap.size w w' := by
  have DW := Lib.hid awake_any
  have D1 := Lib.hid H1
  have D2 := Lib.hid H2
  have D3 := Lib.hid H3
  have D4 := Lib.hid H4
  clear H1 H2 H3 H4
  have qk : (k != k) = false := bne_self_eq_false _
  have qc : (c != 0) = true := by simpa using hc
  clear hc
  go_enter Try.func13, Try.ntmps13
  go_wp2_with fail
  obtain ⟨W0, hW0⟩ : ∃ W0, W0 = (w.alloc (.cells #[.bool dn, .string di, .string df] 23)) := ⟨_, rfl⟩
  obtain ⟨hB, hz, C0, _⟩ : Below w.heap.size w W0 ∧ w.heap.size + 1 ≤ W0.heap.size ∧ Cells3 W0 w.heap.size (.bool dn) (.string di) (.string df) ∧ ∀ i, W0.frozen? ⟨w.heap.size, i, none⟩ = false := by rw [hW0]; exact ⟨(Below.refl _ w).alloc (Nat.le_refl _) _, one_box w _ _ _ _⟩
  have z0 : w.heap.size + 1 ≤ W0.heap.size := by omega
  rw [← hW0]
  have HB := Lib.hid hB
  clear hW0 hB hz
  (with_reducible refine (DW.out _).mono ?_)
  rintro e V1 ⟨rfl, hb⟩
  replace C0 := C0.keep hb (by omega)
  replace z0 : w.heap.size + 1 ≤ V1.heap.size := by have := hb.size; omega
  replace HB := Lib.hid (HB.out.trans (hb.mono HB.out.size))
  clear hb
  have o00 := C0.1
  have o01 := C0.2.1
  have o02 := C0.2.2
  go_wp2_with fail
  clear o00 o01 o02
  (with_reducible refine (D1.out _).mono ?_)
  rintro e V2 ⟨rfl, hb⟩
  replace C0 := C0.keep hb (by omega)
  replace z0 : w.heap.size + 1 ≤ V2.heap.size := by have := hb.size; omega
  replace HB := Lib.hid (HB.out.trans (hb.mono HB.out.size))
  clear hb
  have ba : Below V2.heap.size V2 (V2.alloc (.cells #[.bool on, .string oi, .string ⟨#[]⟩] 23)) := (Below.refl _ _).alloc (Nat.le_refl _) _
  replace C0 := C0.keep ba (by omega)
  replace z0 : w.heap.size + 1 ≤ (V2.alloc (.cells #[.bool on, .string oi, .string ⟨#[]⟩] 23)).heap.size := by have := ba.size; omega
  replace HB := Lib.hid (HB.out.trans (ba.mono HB.out.size))
  clear ba
  have C1 : Cells3 (V2.alloc (.cells #[.bool on, .string oi, .string ⟨#[]⟩] 23)) V2.heap.size (.bool on) (.string oi) (.string ⟨#[]⟩) := (one_box V2 _ _ _ _).2.1
  have z1 : V2.heap.size + 1 ≤ (V2.alloc (.cells #[.bool on, .string oi, .string ⟨#[]⟩] 23)).heap.size := by simp
  have o00 := C0.1
  have o10 := C1.1
  have o01 := C0.2.1
  have o02 := C0.2.2
  have o11 := C1.2.1
  have o12 := C1.2.2
  go_wp2_with fail
  clear o00 o01 o02 o10 o11 o12
  obtain ⟨V2x, hV2x⟩ : ∃ V2x, V2x = V2.alloc (.cells #[.bool on, .string oi, .string ⟨#[]⟩] 23) := ⟨_, rfl⟩
  have HX := Lib.hid (show V2.heap.size + 1 = V2x.heap.size by rw [hV2x]; simp)
  rw [← hV2x]
  rw [← hV2x] at HB C0 z0 C1 z1
  clear hV2x
  (with_reducible refine (D2.out _).mono ?_)
  rintro e V3 ⟨rfl, hb⟩
  replace C0 := C0.keep hb (by omega)
  replace z0 : w.heap.size + 1 ≤ V3.heap.size := by have := hb.size; omega
  replace C1 := C1.keep hb (by omega)
  replace z1 : V2.heap.size + 1 ≤ V3.heap.size := by have := hb.size; omega
  replace HB := Lib.hid (HB.out.trans (hb.mono HB.out.size))
  clear hb
  have o00 := C0.1
  have o10 := C1.1
  have o01 := C0.2.1
  have o02 := C0.2.2
  have o11 := C1.2.1
  have o12 := C1.2.2
  go_wp2_with fail
  clear o00 o01 o02 o10 o11 o12
  (with_reducible refine (D3.out _).mono ?_)
  rintro e V4 ⟨rfl, hb⟩
  replace C0 := C0.keep hb (by omega)
  replace z0 : w.heap.size + 1 ≤ V4.heap.size := by have := hb.size; omega
  replace C1 := C1.keep hb (by omega)
  replace z1 : V2.heap.size + 1 ≤ V4.heap.size := by have := hb.size; omega
  replace HB := Lib.hid (HB.out.trans (hb.mono HB.out.size))
  clear hb
  have o00 := C0.1
  have o10 := C1.1
  have o01 := C0.2.1
  have o02 := C0.2.2
  have o11 := C1.2.1
  have o12 := C1.2.2
  go_wp2_with fail
  clear o00 o01 o02 o10 o11 o12
  (with_reducible refine (D4.out _).mono ?_)
  rintro e V5 ⟨rfl, hb⟩
  replace C0 := C0.keep hb (by omega)
  replace z0 : w.heap.size + 1 ≤ V5.heap.size := by have := hb.size; omega
  replace C1 := C1.keep hb (by omega)
  replace z1 : V2.heap.size + 1 ≤ V5.heap.size := by have := hb.size; omega
  replace HB := Lib.hid (HB.out.trans (hb.mono HB.out.size))
  clear hb
  have o00 := C0.1
  have o10 := C1.1
  have o01 := C0.2.1
  have o02 := C0.2.2
  have o11 := C1.2.1
  have o12 := C1.2.2
  go_wp2
  go_ret
  exact ⟨rfl, HB.out⟩

set_option maxHeartbeats 4000000 in
set_option maxRecDepth 100000 in
theorem ints_ok (k : Int) (dn on : Bool) (di df oi : ByteArray) (w : World) (m : Int) (tn : Bool) (ti tf : ByteArray) (H1 : ∀ wx : World, Calls Try.prog 42 #[.int .i64 k] wx fun e w' => e = .returned (.agg #[.bool on, .string oi, .string ⟨#[]⟩]) ∧ Below wx.heap.size wx w') (H2 : ∀ wx : World, Calls Try.prog 43 #[(.agg #[.bool on, .string oi, .string ⟨#[]⟩])] wx fun e w' => e = .returned (.tuple #[.int .i64 k, .int .i64 0]) ∧ Below wx.heap.size wx w') (H3 : ∀ wx : World, Calls Try.prog 16 #[(.agg #[.bool on, .string oi, .string ⟨#[]⟩])] wx fun e w' => e = .returned (.int .i64 0) ∧ Below wx.heap.size wx w') (H4 : ∀ wx : World, Calls Try.prog 43 #[(.agg #[.bool dn, .string di, .string df])] wx fun e w' => e = .returned (.tuple #[.int .i64 m, .int .i64 0]) ∧ Below wx.heap.size wx w') (H5 : ∀ wx : World, Calls Try.prog 34 #[(.agg #[.bool dn, .string di, .string df])] wx fun e w' => e = .returned (.tuple #[(.agg #[.bool tn, .string ti, .string tf]), .int .i64 0]) ∧ Below wx.heap.size wx w') (H6 : ∀ wx : World, Calls Try.prog 42 #[.int .i64 m] wx fun e w' => e = .returned (.agg #[.bool tn, .string ti, .string tf]) ∧ Below wx.heap.size wx w') :
    Calls Try.prog 13 #[.int .i64 k, (.agg #[.bool dn, .string di, .string df])] w fun e w' => e = .returned (.bool true) ∧ Below w.heap.size w w' := by
  have DW := Lib.hid awake_any
  have D1 := Lib.hid H1
  have D2 := Lib.hid H2
  have D3 := Lib.hid H3
  have D4 := Lib.hid H4
  have D5 := Lib.hid H5
  have D6 := Lib.hid H6
  clear H1 H2 H3 H4 H5 H6
  have qk : (k != k) = false := bne_self_eq_false _
  have qtm : (tn == tn) = true := beq_self_eq_true _
  have qti : (ti.toList == ti.toList) = true := beq_self_eq_true _
  have qtf : (tf.toList == tf.toList) = true := beq_self_eq_true _
  go_enter Try.func13, Try.ntmps13
  go_wp2_with fail
  obtain ⟨W0, hW0⟩ : ∃ W0, W0 = (w.alloc (.cells #[.bool dn, .string di, .string df] 23)) := ⟨_, rfl⟩
  obtain ⟨hB, hz, C0, _⟩ : Below w.heap.size w W0 ∧ w.heap.size + 1 ≤ W0.heap.size ∧ Cells3 W0 w.heap.size (.bool dn) (.string di) (.string df) ∧ ∀ i, W0.frozen? ⟨w.heap.size, i, none⟩ = false := by rw [hW0]; exact ⟨(Below.refl _ w).alloc (Nat.le_refl _) _, one_box w _ _ _ _⟩
  have z0 : w.heap.size + 1 ≤ W0.heap.size := by omega
  rw [← hW0]
  have HB := Lib.hid hB
  clear hW0 hB hz
  (with_reducible refine (DW.out _).mono ?_)
  rintro e V1 ⟨rfl, hb⟩
  replace C0 := C0.keep hb (by omega)
  replace z0 : w.heap.size + 1 ≤ V1.heap.size := by have := hb.size; omega
  replace HB := Lib.hid (HB.out.trans (hb.mono HB.out.size))
  clear hb
  have o00 := C0.1
  have o01 := C0.2.1
  have o02 := C0.2.2
  go_wp2_with fail
  clear o00 o01 o02
  (with_reducible refine (D1.out _).mono ?_)
  rintro e V2 ⟨rfl, hb⟩
  replace C0 := C0.keep hb (by omega)
  replace z0 : w.heap.size + 1 ≤ V2.heap.size := by have := hb.size; omega
  replace HB := Lib.hid (HB.out.trans (hb.mono HB.out.size))
  clear hb
  have ba : Below V2.heap.size V2 (V2.alloc (.cells #[.bool on, .string oi, .string ⟨#[]⟩] 23)) := (Below.refl _ _).alloc (Nat.le_refl _) _
  replace C0 := C0.keep ba (by omega)
  replace z0 : w.heap.size + 1 ≤ (V2.alloc (.cells #[.bool on, .string oi, .string ⟨#[]⟩] 23)).heap.size := by have := ba.size; omega
  replace HB := Lib.hid (HB.out.trans (ba.mono HB.out.size))
  clear ba
  have C1 : Cells3 (V2.alloc (.cells #[.bool on, .string oi, .string ⟨#[]⟩] 23)) V2.heap.size (.bool on) (.string oi) (.string ⟨#[]⟩) := (one_box V2 _ _ _ _).2.1
  have z1 : V2.heap.size + 1 ≤ (V2.alloc (.cells #[.bool on, .string oi, .string ⟨#[]⟩] 23)).heap.size := by simp
  have o00 := C0.1
  have o10 := C1.1
  have o01 := C0.2.1
  have o02 := C0.2.2
  have o11 := C1.2.1
  have o12 := C1.2.2
  go_wp2_with fail
  clear o00 o01 o02 o10 o11 o12
  obtain ⟨V2x, hV2x⟩ : ∃ V2x, V2x = V2.alloc (.cells #[.bool on, .string oi, .string ⟨#[]⟩] 23) := ⟨_, rfl⟩
  have HX := Lib.hid (show V2.heap.size + 1 = V2x.heap.size by rw [hV2x]; simp)
  rw [← hV2x]
  rw [← hV2x] at HB C0 z0 C1 z1
  clear hV2x
  (with_reducible refine (D2.out _).mono ?_)
  rintro e V3 ⟨rfl, hb⟩
  replace C0 := C0.keep hb (by omega)
  replace z0 : w.heap.size + 1 ≤ V3.heap.size := by have := hb.size; omega
  replace C1 := C1.keep hb (by omega)
  replace z1 : V2.heap.size + 1 ≤ V3.heap.size := by have := hb.size; omega
  replace HB := Lib.hid (HB.out.trans (hb.mono HB.out.size))
  clear hb
  have o00 := C0.1
  have o10 := C1.1
  have o01 := C0.2.1
  have o02 := C0.2.2
  have o11 := C1.2.1
  have o12 := C1.2.2
  go_wp2_with fail
  clear o00 o01 o02 o10 o11 o12
  (with_reducible refine (D3.out _).mono ?_)
  rintro e V4 ⟨rfl, hb⟩
  replace C0 := C0.keep hb (by omega)
  replace z0 : w.heap.size + 1 ≤ V4.heap.size := by have := hb.size; omega
  replace C1 := C1.keep hb (by omega)
  replace z1 : V2.heap.size + 1 ≤ V4.heap.size := by have := hb.size; omega
  replace HB := Lib.hid (HB.out.trans (hb.mono HB.out.size))
  clear hb
  have o00 := C0.1
  have o10 := C1.1
  have o01 := C0.2.1
  have o02 := C0.2.2
  have o11 := C1.2.1
  have o12 := C1.2.2
  go_wp2_with fail
  clear o00 o01 o02 o10 o11 o12
  (with_reducible refine (D4.out _).mono ?_)
  rintro e V5 ⟨rfl, hb⟩
  replace C0 := C0.keep hb (by omega)
  replace z0 : w.heap.size + 1 ≤ V5.heap.size := by have := hb.size; omega
  replace C1 := C1.keep hb (by omega)
  replace z1 : V2.heap.size + 1 ≤ V5.heap.size := by have := hb.size; omega
  replace HB := Lib.hid (HB.out.trans (hb.mono HB.out.size))
  clear hb
  have o00 := C0.1
  have o10 := C1.1
  have o01 := C0.2.1
  have o02 := C0.2.2
  have o11 := C1.2.1
  have o12 := C1.2.2
  go_wp2_with fail
  clear o00 o01 o02 o10 o11 o12
  (with_reducible refine (D5.out _).mono ?_)
  rintro e V6 ⟨rfl, hb⟩
  replace C0 := C0.keep hb (by omega)
  replace z0 : w.heap.size + 1 ≤ V6.heap.size := by have := hb.size; omega
  replace C1 := C1.keep hb (by omega)
  replace z1 : V2.heap.size + 1 ≤ V6.heap.size := by have := hb.size; omega
  replace HB := Lib.hid (HB.out.trans (hb.mono HB.out.size))
  clear hb
  have ba : Below V6.heap.size V6 (V6.alloc (.cells #[.bool tn, .string ti, .string tf] 23)) := (Below.refl _ _).alloc (Nat.le_refl _) _
  replace C0 := C0.keep ba (by omega)
  replace z0 : w.heap.size + 1 ≤ (V6.alloc (.cells #[.bool tn, .string ti, .string tf] 23)).heap.size := by have := ba.size; omega
  replace C1 := C1.keep ba (by omega)
  replace z1 : V2.heap.size + 1 ≤ (V6.alloc (.cells #[.bool tn, .string ti, .string tf] 23)).heap.size := by have := ba.size; omega
  replace HB := Lib.hid (HB.out.trans (ba.mono HB.out.size))
  clear ba
  have C2 : Cells3 (V6.alloc (.cells #[.bool tn, .string ti, .string tf] 23)) V6.heap.size (.bool tn) (.string ti) (.string tf) := (one_box V6 _ _ _ _).2.1
  have z2 : V6.heap.size + 1 ≤ (V6.alloc (.cells #[.bool tn, .string ti, .string tf] 23)).heap.size := by simp
  have o00 := C0.1
  have o10 := C1.1
  have o20 := C2.1
  have o01 := C0.2.1
  have o02 := C0.2.2
  have o11 := C1.2.1
  have o12 := C1.2.2
  have o21 := C2.2.1
  have o22 := C2.2.2
  go_wp2_with fail
  clear o00 o01 o02 o10 o11 o12 o20 o21 o22
  obtain ⟨V6x, hV6x⟩ : ∃ V6x, V6x = V6.alloc (.cells #[.bool tn, .string ti, .string tf] 23) := ⟨_, rfl⟩
  have HX := Lib.hid (show V6.heap.size + 1 = V6x.heap.size by rw [hV6x]; simp)
  rw [← hV6x]
  rw [← hV6x] at HB C0 z0 C1 z1 C2 z2
  clear hV6x
  have o00 := C0.1
  have o10 := C1.1
  have o20 := C2.1
  have o01 := C0.2.1
  have o02 := C0.2.2
  have o11 := C1.2.1
  have o12 := C1.2.2
  have o21 := C2.2.1
  have o22 := C2.2.2
  go_region_held3 (fun w' => w'.cell? ⟨V6.heap.size, 0, none⟩ = some (.bool tn) ∧ w'.cell? ⟨V6.heap.size, 1, none⟩ = some (.string ti) ∧ w'.cell? ⟨V6.heap.size, 2, none⟩ = some (.string tf))
    (first
      | exact ⟨o20, o21, o22⟩
      | (have t := C2.keep (undrew hbA) (by omega); exact ⟨t.1, t.2.1, t.2.2⟩)
      | go_keep)
    (first
      | (go_at_call 42; (with_reducible refine (D6.out _).mono ?_); rintro e wA ⟨rfl, hbA⟩))
  go_wp2
  go_ret
  exact ⟨rfl, HB.out.trans ((undrew hbA).mono HB.out.size)⟩

def ofD (k : Int) : Dc := ⟨decide (k < 0), digs k.natAbs, []⟩
theorem ofD_mk (k : Int) (h : k.natAbs ≤ 9223372036854775808) : mk k 0 = some (ofD k) := by
  unfold mk
  have h1 := digs_len k.natAbs
  have h2 := (digs_le k.natAbs 40 (by omega)).2 (by omega)
  rw [padTo_same (by omega), if_neg (by omega), Nat.sub_zero, List.take_length, List.drop_length]
  rfl
theorem of_any (k : Int) (w : World) (h1 : -9223372036854775808 ≤ k) (h2 : k ≤ 9223372036854775807) :
    Calls Try.prog 42 #[.int .i64 k] w fun e w' => e = .returned (.agg #[.bool (ofD k).neg, .string (dStr (ofD k).i), .string ⟨#[]⟩]) ∧ Below w.heap.size w w' := by
  by_cases h : k < 0
  · have := of_true k w h h1
    rw [show (ofD k).neg = true from decide_eq_true h]
    exact this
  · have := of_false k w (by omega) h2
    rw [show (ofD k).neg = false from decide_eq_false h]
    exact this
theorem int64_ok (d : Dc) (w : World) (hd : d.Ok) :
    Calls Try.prog 43 #[.agg #[.bool d.neg, .string (dStr d.i), .string (dStr d.f)]] w fun e w' => e = .returned (.tuple #[.int .i64 (i64V d), .int .i64 (i64C d)]) ∧ Below w.heap.size w w' := by
  cases h : d.neg with
  | false => exact int64_false d w hd h
  | true => exact int64_true d w hd h
theorem fits_of (k : Int) (h1 : -9223372036854775808 ≤ k) (h2 : k ≤ 9223372036854775807) : fits (ofD k) = true ∧ i64V (ofD k) = k := by
  have hv : dVal (ofD k).i = k.natAbs := dVal_digs _
  have hf : fits (ofD k) = true := fits_yes (by rw [zrB_list]; rfl) (by
    rw [hv]
    unfold mostN ofD
    by_cases h : k < 0
    · simp only [h, decide_true, if_true]; omega
    · simp only [h, decide_false, Bool.false_eq_true, if_false]; omega)
  refine ⟨hf, ?_⟩
  unfold i64V
  rw [if_pos hf, hv]
  unfold ofD
  by_cases h : k < 0
  · simp only [h, decide_true, if_true]; omega
  · simp only [h, decide_false, Bool.false_eq_true, if_false]; omega
theorem fits_val {d : Dc} (hd : d.Ok) (h : fits d = true) : (i64V d).natAbs ≤ 9223372036854775808 ∧ -9223372036854775808 ≤ i64V d ∧ i64V d ≤ 9223372036854775807 ∧ cmpD (ofD (i64V d)) d = 0 := by
  have hz : dVal d.f = 0 := by
    unfold fits at h
    rw [Bool.and_eq_true, zrB_list, dStr_toList] at h
    have h2 := (all0_iff (l := dB d.f) (dB_isD hd.df)).1 h.1
    rw [dN_dB hd.df] at h2
    exact h2
  have hm : dVal d.i ≤ mostN d.neg := by
    unfold fits at h
    rw [Bool.and_eq_true, decide_eq_true_eq] at h
    exact h.2
  have hb : (i64V d).natAbs ≤ 9223372036854775808 ∧ -9223372036854775808 ≤ i64V d ∧ i64V d ≤ 9223372036854775807 := by
    unfold i64V
    rw [if_pos h]
    unfold mostN at hm
    cases hn : d.neg <;> rw [hn] at hm <;> simp only [Bool.false_eq_true, if_false, if_true] at hm ⊢ <;> omega
  refine ⟨hb.1, hb.2.1, hb.2.2, ?_⟩
  have ho := ofD_mk (i64V d) hb.1
  obtain ⟨o1, o2, o3, o4, o5⟩ := mk_some ho
  rw [cmp_zero d.f.length (by omega) (Nat.le_refl _), up_of ho, up_same, Nat.sub_zero]
  have hnum : d.num = dVal d.i * 10 ^ d.f.length := by unfold Dc.num; rw [dVal_append, hz, Nat.add_zero]
  unfold i64V Dc.z
  rw [if_pos h, hnum]
  cases d.neg <;> simp [Int.neg_mul]
theorem cmp0_tr {a b c : Dc} (h1 : cmpD a b = 0) (h2 : cmpD b c = 0) : cmpD a c = 0 := by
  have k1 := (cmp_trans a b c (by omega) (by omega)).1
  have k2 := (cmp_trans c b a (by rw [cmp_neg b c]; omega) (by rw [cmp_neg a b]; omega)).1
  rw [cmp_neg a c] at k2
  omega

theorem ints_walk (k : Int) (n : Bool) (i f : ByteArray) (w : World) (h1 : -9223372036854775808 ≤ k) (h2 : k ≤ 9223372036854775807) (hi : i.size ≤ 140737488355328) (hf : f.size ≤ 140737488355328) :
    Calls Try.prog 13 #[.int .i64 k, .agg #[.bool n, .string i, .string f]] w fun e w' => e = .returned (.bool true) ∧ Below w.heap.size w w' := by
  have ho := ofD_mk k (by omega)
  obtain ⟨_, _, o3, _, _⟩ := mk_some ho
  obtain ⟨f1, f2⟩ := fits_of k h1 h2
  have H1 := fun wx => of_any k wx h1 h2
  have H2 := fun wx => int64_ok (ofD k) wx o3
  rw [f2, show i64C (ofD k) = 0 from if_pos f1] at H2
  have H3 := fun wx => check_any (ofD k).neg (dStr (ofD k).i) (dStr (ofD k).f) wx (by rw [dStr_size]; have := o3.most; omega) (by rw [dStr_size]; have := o3.most; omega)
  rw [ck_ok o3] at H3
  cases hk : okB n i f with
  | false => exact ints_bad (w := w) (H1 := H1) (H2 := H2) (H3 := H3) (H4 := fun wx => int64_bad n i f wx hi hf hk) (hc := by decide)
  | true =>
    obtain ⟨d, hd, rfl, rfl, rfl⟩ := ok_cases hk
    have H4 := fun wx => int64_ok d wx hd
    cases hft : fits d with
    | false =>
      rw [show i64V d = 0 from if_neg (by rw [hft]; decide), show i64C d = 22 from if_neg (by rw [hft]; decide)] at H4
      exact ints_bad (w := w) (H1 := H1) (H2 := H2) (H3 := H3) (H4 := H4) (hc := by decide)
    | true =>
      rw [show i64C d = 0 from if_pos hft] at H4
      obtain ⟨b1, b2, b3, b4⟩ := fits_val hd hft
      obtain ⟨t1, t2, t3⟩ := trim_facts hd
      have hm := ofD_mk (i64V d) b1
      have e : ofD (i64V d) = trimD d := trimmed_same (mk_some hm).2.2.1 t1 (.inl rfl) t3 (cmp0_tr b4 (by rw [cmp_neg]; omega))
      have H6 := fun wx => of_any (i64V d) wx b2 b3
      have ef : dStr (trimD d).f = ⟨#[]⟩ := by rw [← e]; rfl
      rw [e] at H6
      have H5 := fun wx => trim_ok d wx hd
      rw [ef] at H5
      exact ints_ok (w := w) (H1 := H1) (H2 := H2) (H3 := H3) (H4 := H4) (H5 := H5) (H6 := H6)
end Go.Proofs.Ytohppejblbeemaa
