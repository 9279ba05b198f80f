/- DecimalBack: each decimal has one text, each text one decimal. -/
import Derived.Test.YtohppejblbeemaaLawChecks
namespace Go.Proofs.Ytohppejblbeemaa
open Go.RowKit

theorem ps_back {d : Dc} (h : d.Ok) : psN (txS d) = d.neg ∧ psI (txS d) = dStr d.i ∧ psF (txS d) = dStr d.f ∧ psE (txS d) = 0 := by
  have e : psR (txS d) = (d.rw, 0) := prs_txt h
  unfold psN psI psF psE
  rw [e]
  exact ⟨rfl, rfl, rfl, rfl⟩
theorem txS_size {d : Dc} (h : d.Ok) : (txS d).size ≤ 100 := by
  have h2 := h.most
  show (txt d.rw).toArray.size ≤ 100
  unfold txt Dc.rw
  simp only [List.size_toArray, List.length_append, dB_len]
  split <;> split <;> simp [dB_len] <;> omega
theorem parse_back (d : Dc) (w : World) (h : d.Ok) :
    Calls Try.prog 19 #[.string (txS d)] w fun e w' => e = .returned (.tuple #[.agg #[.bool d.neg, .string (dStr d.i), .string (dStr d.f)], .int .i64 0]) ∧ Below w.heap.size w w' := by
  obtain ⟨e1, e2, e3, e4⟩ := ps_back h
  have := parse_any (txS d) w (by have := txS_size h; unfold maxLen; omega)
  rw [e1, e2, e3, e4] at this
  exact this
theorem ps_told {s : ByteArray} (h : psE s = 0) : okB (psN s) (psI s) (psF s) = true ∧ prS (psN s) (psI s) (psF s) = s := by
  have e : psR s = ((psR s).1, 0) := by
    have : (psR s).2 = 0 := h
    rw [← this]
  obtain ⟨h1, h2⟩ := prs_ok e
  have h3 : okB (psN s) (psI s) (psF s) = true := by rw [okB_list]; exact h1
  refine ⟨h3, ?_⟩
  unfold prS
  rw [if_pos h3]
  apply ByteArray.ext
  apply Array.ext'
  exact h2
theorem print_told (s : ByteArray) (w : World) (h : psE s = 0) :
    Calls Try.prog 14 #[.agg #[.bool (psN s), .string (psI s), .string (psF s)]] w fun e w' => e = .returned (.tuple #[.string s, .int .i64 0]) ∧ Below w.heap.size w w' := by
  obtain ⟨h1, h2⟩ := ps_told h
  have hl : (psI s).size ≤ 40 ∧ (psF s).size ≤ 40 := by
    obtain ⟨d, hd, _, e2, e3⟩ := ok_cases h1
    rw [e2, e3, dStr_size, dStr_size]
    have := hd.most
    omega
  have := print_any (psN s) (psI s) (psF s) w (by omega) (by omega)
  rw [h2, show ckE (psN s) (psI s) (psF s) = 0 from if_pos h1] at this
  exact this

set_option maxHeartbeats 4000000 in
set_option maxRecDepth 100000 in
theorem back_a (d : Dc) (s : ByteArray) (w : World) (hd : d.Ok) (hs : s.size ≤ 140737488355328) (hr : psE s = 0) :
    Calls Try.prog 8 #[.agg #[.bool d.neg, .string (dStr d.i), .string (dStr d.f)], .string s] w fun e w' => e = .returned (.bool true) ∧ Below w.heap.size w w' := by
  have DW := Lib.hid awake_any
  have D1 := Lib.hid (fun wx => print_ok d wx hd)
  have D2 := Lib.hid (fun wx => refCheck_ok d wx hd)
  have D3 := Lib.hid (fun wx => parse_back d wx hd)
  have q1 : (d.neg == d.neg) = true := beq_self_eq_true _
  have q2 : ((dStr d.i).toList == (dStr d.i).toList) = true := beq_self_eq_true _
  have q3 : ((dStr d.f).toList == (dStr d.f).toList) = true := beq_self_eq_true _
  have D4 := Lib.hid (fun wx => parse_any s wx (by unfold maxLen; omega))
  rw [hr] at D4
  have D5 := Lib.hid (fun wx => print_told s wx hr)
  have q4 : (s.toList == s.toList) = true := beq_self_eq_true _
  clear hr
  go_enter Try.func8, Try.ntmps8
  go_wp2_with fail
  obtain ⟨W0, hW0⟩ : ∃ W0, W0 = (w.alloc (.cells #[.bool d.neg, .string (dStr d.i), .string (dStr d.f)] 23)) := ⟨_, rfl⟩
  obtain ⟨hB, hz, C0, _⟩ : Below w.heap.size w W0 ∧ w.heap.size + 1 ≤ W0.heap.size ∧ Cells3 W0 w.heap.size (.bool d.neg) (.string (dStr d.i)) (.string (dStr d.f)) ∧ ∀ i, W0.frozen? ⟨w.heap.size, i, none⟩ = false := by rw [hW0]; exact ⟨(Below.refl _ w).alloc (Nat.le_refl _) _, one_box w _ _ _ _⟩
  have z0 : w.heap.size + 1 ≤ W0.heap.size := by omega
  rw [← hW0]
  have HB := Lib.hid hB
  clear hW0 hB hz
  (with_reducible refine (DW.out _).mono ?_)
  rintro e V1 ⟨rfl, hb⟩
  replace C0 := C0.keep hb (by omega)
  replace z0 : w.heap.size + 1 ≤ V1.heap.size := by have := hb.size; omega
  replace HB := Lib.hid (HB.out.trans (hb.mono HB.out.size))
  clear hb
  have o00 := C0.1
  have o01 := C0.2.1
  have o02 := C0.2.2
  go_wp2_with fail
  clear o00 o01 o02
  (with_reducible refine (D1.out _).mono ?_)
  rintro e V2 ⟨rfl, hb⟩
  replace C0 := C0.keep hb (by omega)
  replace z0 : w.heap.size + 1 ≤ V2.heap.size := by have := hb.size; omega
  replace HB := Lib.hid (HB.out.trans (hb.mono HB.out.size))
  clear hb
  have o00 := C0.1
  have o01 := C0.2.1
  have o02 := C0.2.2
  go_wp2_with fail
  clear o00 o01 o02
  (with_reducible refine (D2.out _).mono ?_)
  rintro e V3 ⟨rfl, hb⟩
  replace C0 := C0.keep hb (by omega)
  replace z0 : w.heap.size + 1 ≤ V3.heap.size := by have := hb.size; omega
  replace HB := Lib.hid (HB.out.trans (hb.mono HB.out.size))
  clear hb
  have o00 := C0.1
  have o01 := C0.2.1
  have o02 := C0.2.2
  go_wp2_with fail
  clear o00 o01 o02
  (with_reducible refine (D3.out _).mono ?_)
  rintro e V4 ⟨rfl, hb⟩
  replace C0 := C0.keep hb (by omega)
  replace z0 : w.heap.size + 1 ≤ V4.heap.size := by have := hb.size; omega
  replace HB := Lib.hid (HB.out.trans (hb.mono HB.out.size))
  clear hb
  have ba : Below V4.heap.size V4 (V4.alloc (.cells #[.bool d.neg, .string (dStr d.i), .string (dStr d.f)] 23)) := (Below.refl _ _).alloc (Nat.le_refl _) _
  replace C0 := C0.keep ba (by omega)
  replace z0 : w.heap.size + 1 ≤ (V4.alloc (.cells #[.bool d.neg, .string (dStr d.i), .string (dStr d.f)] 23)).heap.size := by have := ba.size; omega
  replace HB := Lib.hid (HB.out.trans (ba.mono HB.out.size))
  clear ba
  have C1 : Cells3 (V4.alloc (.cells #[.bool d.neg, .string (dStr d.i), .string (dStr d.f)] 23)) V4.heap.size (.bool d.neg) (.string (dStr d.i)) (.string (dStr d.f)) := (one_box V4 _ _ _ _).2.1
  have z1 : V4.heap.size + 1 ≤ (V4.alloc (.cells #[.bool d.neg, .string (dStr d.i), .string (dStr d.f)] 23)).heap.size := by simp
  have o00 := C0.1
  have o10 := C1.1
  have o01 := C0.2.1
  have o02 := C0.2.2
  have o11 := C1.2.1
  have o12 := C1.2.2
  go_wp2_with fail
  clear o00 o01 o02 o10 o11 o12
  obtain ⟨V4x, hV4x⟩ : ∃ V4x, V4x = V4.alloc (.cells #[.bool d.neg, .string (dStr d.i), .string (dStr d.f)] 23) := ⟨_, rfl⟩
  rw [← hV4x]
  rw [← hV4x] at HB C0 z0 C1 z1
  clear hV4x
  (with_reducible refine (D4.out _).mono ?_)
  rintro e V5 ⟨rfl, hb⟩
  replace C0 := C0.keep hb (by omega)
  replace z0 : w.heap.size + 1 ≤ V5.heap.size := by have := hb.size; omega
  replace C1 := C1.keep hb (by omega)
  replace z1 : V4.heap.size + 1 ≤ V5.heap.size := by have := hb.size; omega
  replace HB := Lib.hid (HB.out.trans (hb.mono HB.out.size))
  clear hb
  have ba : Below V5.heap.size V5 (V5.alloc (.cells #[.bool (psN s), .string (psI s), .string (psF s)] 23)) := (Below.refl _ _).alloc (Nat.le_refl _) _
  replace C0 := C0.keep ba (by omega)
  replace z0 : w.heap.size + 1 ≤ (V5.alloc (.cells #[.bool (psN s), .string (psI s), .string (psF s)] 23)).heap.size := by have := ba.size; omega
  replace C1 := C1.keep ba (by omega)
  replace z1 : V4.heap.size + 1 ≤ (V5.alloc (.cells #[.bool (psN s), .string (psI s), .string (psF s)] 23)).heap.size := by have := ba.size; omega
  replace HB := Lib.hid (HB.out.trans (ba.mono HB.out.size))
  clear ba
  have C2 : Cells3 (V5.alloc (.cells #[.bool (psN s), .string (psI s), .string (psF s)] 23)) V5.heap.size (.bool (psN s)) (.string (psI s)) (.string (psF s)) := (one_box V5 _ _ _ _).2.1
  have z2 : V5.heap.size + 1 ≤ (V5.alloc (.cells #[.bool (psN s), .string (psI s), .string (psF s)] 23)).heap.size := by simp
  have o00 := C0.1
  have o10 := C1.1
  have o20 := C2.1
  have o01 := C0.2.1
  have o02 := C0.2.2
  have o11 := C1.2.1
  have o12 := C1.2.2
  have o21 := C2.2.1
  have o22 := C2.2.2
  go_wp2_with fail
  clear o00 o01 o02 o10 o11 o12 o20 o21 o22
  obtain ⟨V5x, hV5x⟩ : ∃ V5x, V5x = V5.alloc (.cells #[.bool (psN s), .string (psI s), .string (psF s)] 23) := ⟨_, rfl⟩
  rw [← hV5x]
  rw [← hV5x] at HB C0 z0 C1 z1 C2 z2
  clear hV5x
  (with_reducible refine (D5.out _).mono ?_)
  rintro e V6 ⟨rfl, hb⟩
  replace C0 := C0.keep hb (by omega)
  replace z0 : w.heap.size + 1 ≤ V6.heap.size := by have := hb.size; omega
  replace C1 := C1.keep hb (by omega)
  replace z1 : V4.heap.size + 1 ≤ V6.heap.size := by have := hb.size; omega
  replace C2 := C2.keep hb (by omega)
  replace z2 : V5.heap.size + 1 ≤ V6.heap.size := by have := hb.size; omega
  replace HB := Lib.hid (HB.out.trans (hb.mono HB.out.size))
  clear hb
  have o00 := C0.1
  have o10 := C1.1
  have o20 := C2.1
  have o01 := C0.2.1
  have o02 := C0.2.2
  have o11 := C1.2.1
  have o12 := C1.2.2
  have o21 := C2.2.1
  have o22 := C2.2.2
  go_wp2
  go_ret
  exact ⟨rfl, HB.out⟩

set_option maxHeartbeats 4000000 in
set_option maxRecDepth 100000 in
theorem back_b (d : Dc) (s : ByteArray) (w : World) (hd : d.Ok) (hs : s.size ≤ 140737488355328) (hr : psE s ≠ 0) :
    Calls Try.prog 8 #[.agg #[.bool d.neg, .string (dStr d.i), .string (dStr d.f)], .string s] w fun e w' => e = .returned (.bool true) ∧ Below w.heap.size w w' := by
  have DW := Lib.hid awake_any
  have D1 := Lib.hid (fun wx => print_ok d wx hd)
  have D2 := Lib.hid (fun wx => refCheck_ok d wx hd)
  have D3 := Lib.hid (fun wx => parse_back d wx hd)
  have q1 : (d.neg == d.neg) = true := beq_self_eq_true _
  have q2 : ((dStr d.i).toList == (dStr d.i).toList) = true := beq_self_eq_true _
  have q3 : ((dStr d.f).toList == (dStr d.f).toList) = true := beq_self_eq_true _
  have D4 := Lib.hid (fun wx => parse_any s wx (by unfold maxLen; omega))
  have q5 : (psE s != 0) = true := by simpa using hr
  generalize psE s = pe at *
  clear hr
  go_enter Try.func8, Try.ntmps8
  go_wp2_with fail
  obtain ⟨W0, hW0⟩ : ∃ W0, W0 = (w.alloc (.cells #[.bool d.neg, .string (dStr d.i), .string (dStr d.f)] 23)) := ⟨_, rfl⟩
  obtain ⟨hB, hz, C0, _⟩ : Below w.heap.size w W0 ∧ w.heap.size + 1 ≤ W0.heap.size ∧ Cells3 W0 w.heap.size (.bool d.neg) (.string (dStr d.i)) (.string (dStr d.f)) ∧ ∀ i, W0.frozen? ⟨w.heap.size, i, none⟩ = false := by rw [hW0]; exact ⟨(Below.refl _ w).alloc (Nat.le_refl _) _, one_box w _ _ _ _⟩
  have z0 : w.heap.size + 1 ≤ W0.heap.size := by omega
  rw [← hW0]
  have HB := Lib.hid hB
  clear hW0 hB hz
  (with_reducible refine (DW.out _).mono ?_)
  rintro e V1 ⟨rfl, hb⟩
  replace C0 := C0.keep hb (by omega)
  replace z0 : w.heap.size + 1 ≤ V1.heap.size := by have := hb.size; omega
  replace HB := Lib.hid (HB.out.trans (hb.mono HB.out.size))
  clear hb
  have o00 := C0.1
  have o01 := C0.2.1
  have o02 := C0.2.2
  go_wp2_with fail
  clear o00 o01 o02
  (with_reducible refine (D1.out _).mono ?_)
  rintro e V2 ⟨rfl, hb⟩
  replace C0 := C0.keep hb (by omega)
  replace z0 : w.heap.size + 1 ≤ V2.heap.size := by have := hb.size; omega
  replace HB := Lib.hid (HB.out.trans (hb.mono HB.out.size))
  clear hb
  have o00 := C0.1
  have o01 := C0.2.1
  have o02 := C0.2.2
  go_wp2_with fail
  clear o00 o01 o02
  (with_reducible refine (D2.out _).mono ?_)
  rintro e V3 ⟨rfl, hb⟩
  replace C0 := C0.keep hb (by omega)
  replace z0 : w.heap.size + 1 ≤ V3.heap.size := by have := hb.size; omega
  replace HB := Lib.hid (HB.out.trans (hb.mono HB.out.size))
  clear hb
  have o00 := C0.1
  have o01 := C0.2.1
  have o02 := C0.2.2
  go_wp2_with fail
  clear o00 o01 o02
  (with_reducible refine (D3.out _).mono ?_)
  rintro e V4 ⟨rfl, hb⟩
  replace C0 := C0.keep hb (by omega)
  replace z0 : w.heap.size + 1 ≤ V4.heap.size := by have := hb.size; omega
  replace HB := Lib.hid (HB.out.trans (hb.mono HB.out.size))
  clear hb
  have ba : Below V4.heap.size V4 (V4.alloc (.cells #[.bool d.neg, .string (dStr d.i), .string (dStr d.f)] 23)) := (Below.refl _ _).alloc (Nat.le_refl _) _
  replace C0 := C0.keep ba (by omega)
  replace z0 : w.heap.size + 1 ≤ (V4.alloc (.cells #[.bool d.neg, .string (dStr d.i), .string (dStr d.f)] 23)).heap.size := by have := ba.size; omega
  replace HB := Lib.hid (HB.out.trans (ba.mono HB.out.size))
  clear ba
  have C1 : Cells3 (V4.alloc (.cells #[.bool d.neg, .string (dStr d.i), .string (dStr d.f)] 23)) V4.heap.size (.bool d.neg) (.string (dStr d.i)) (.string (dStr d.f)) := (one_box V4 _ _ _ _).2.1
  have z1 : V4.heap.size + 1 ≤ (V4.alloc (.cells #[.bool d.neg, .string (dStr d.i), .string (dStr d.f)] 23)).heap.size := by simp
  have o00 := C0.1
  have o10 := C1.1
  have o01 := C0.2.1
  have o02 := C0.2.2
  have o11 := C1.2.1
  have o12 := C1.2.2
  go_wp2_with fail
  clear o00 o01 o02 o10 o11 o12
  obtain ⟨V4x, hV4x⟩ : ∃ V4x, V4x = V4.alloc (.cells #[.bool d.neg, .string (dStr d.i), .string (dStr d.f)] 23) := ⟨_, rfl⟩
  rw [← hV4x]
  rw [← hV4x] at HB C0 z0 C1 z1
  clear hV4x
  (with_reducible refine (D4.out _).mono ?_)
  rintro e V5 ⟨rfl, hb⟩
  replace C0 := C0.keep hb (by omega)
  replace z0 : w.heap.size + 1 ≤ V5.heap.size := by have := hb.size; omega
  replace C1 := C1.keep hb (by omega)
  replace z1 : V4.heap.size + 1 ≤ V5.heap.size := by have := hb.size; omega
  replace HB := Lib.hid (HB.out.trans (hb.mono HB.out.size))
  clear hb
  have ba : Below V5.heap.size V5 (V5.alloc (.cells #[.bool (psN s), .string (psI s), .string (psF s)] 23)) := (Below.refl _ _).alloc (Nat.le_refl _) _
  replace C0 := C0.keep ba (by omega)
  replace z0 : w.heap.size + 1 ≤ (V5.alloc (.cells #[.bool (psN s), .string (psI s), .string (psF s)] 23)).heap.size := by have := ba.size; omega
  replace C1 := C1.keep ba (by omega)
  replace z1 : V4.heap.size + 1 ≤ (V5.alloc (.cells #[.bool (psN s), .string (psI s), .string (psF s)] 23)).heap.size := by have := ba.size; omega
  replace HB := Lib.hid (HB.out.trans (ba.mono HB.out.size))
  clear ba
  have C2 : Cells3 (V5.alloc (.cells #[.bool (psN s), .string (psI s), .string (psF s)] 23)) V5.heap.size (.bool (psN s)) (.string (psI s)) (.string (psF s)) := (one_box V5 _ _ _ _).2.1
  have z2 : V5.heap.size + 1 ≤ (V5.alloc (.cells #[.bool (psN s), .string (psI s), .string (psF s)] 23)).heap.size := by simp
  have o00 := C0.1
  have o10 := C1.1
  have o20 := C2.1
  have o01 := C0.2.1
  have o02 := C0.2.2
  have o11 := C1.2.1
  have o12 := C1.2.2
  have o21 := C2.2.1
  have o22 := C2.2.2
  go_wp2
  go_ret
  exact ⟨rfl, HB.out⟩

set_option maxHeartbeats 4000000 in
set_option maxRecDepth 100000 in
theorem back_c (n : Bool) (i f s : ByteArray) (w : World) (hi : i.size ≤ 140737488355328) (hf : f.size ≤ 140737488355328) (hs : s.size ≤ 140737488355328) (hk : okB n i f = false) (hr : psE s = 0) :
    Calls Try.prog 8 #[.agg #[.bool n, .string i, .string f], .string s] w fun e w' => e = .returned (.bool true) ∧ Below w.heap.size w w' := by
  have DW := Lib.hid awake_any
  have D1 := Lib.hid (fun wx => print_bad n i f wx hi hf hk)
  have D2 := Lib.hid (fun wx => refCheck_bad n i f wx hi hf hk)
  have D4 := Lib.hid (fun wx => parse_any s wx (by unfold maxLen; omega))
  rw [hr] at D4
  have D5 := Lib.hid (fun wx => print_told s wx hr)
  have q4 : (s.toList == s.toList) = true := beq_self_eq_true _
  clear hr
  go_enter Try.func8, Try.ntmps8
  go_wp2_with fail
  obtain ⟨W0, hW0⟩ : ∃ W0, W0 = (w.alloc (.cells #[.bool n, .string i, .string f] 23)) := ⟨_, rfl⟩
  obtain ⟨hB, hz, C0, _⟩ : Below w.heap.size w W0 ∧ w.heap.size + 1 ≤ W0.heap.size ∧ Cells3 W0 w.heap.size (.bool n) (.string i) (.string f) ∧ ∀ i, W0.frozen? ⟨w.heap.size, i, none⟩ = false := by rw [hW0]; exact ⟨(Below.refl _ w).alloc (Nat.le_refl _) _, one_box w _ _ _ _⟩
  have z0 : w.heap.size + 1 ≤ W0.heap.size := by omega
  rw [← hW0]
  have HB := Lib.hid hB
  clear hW0 hB hz
  (with_reducible refine (DW.out _).mono ?_)
  rintro e V1 ⟨rfl, hb⟩
  replace C0 := C0.keep hb (by omega)
  replace z0 : w.heap.size + 1 ≤ V1.heap.size := by have := hb.size; omega
  replace HB := Lib.hid (HB.out.trans (hb.mono HB.out.size))
  clear hb
  have o00 := C0.1
  have o01 := C0.2.1
  have o02 := C0.2.2
  go_wp2_with fail
  clear o00 o01 o02
  (with_reducible refine (D1.out _).mono ?_)
  rintro e V2 ⟨rfl, hb⟩
  replace C0 := C0.keep hb (by omega)
  replace z0 : w.heap.size + 1 ≤ V2.heap.size := by have := hb.size; omega
  replace HB := Lib.hid (HB.out.trans (hb.mono HB.out.size))
  clear hb
  have o00 := C0.1
  have o01 := C0.2.1
  have o02 := C0.2.2
  go_wp2_with fail
  clear o00 o01 o02
  (with_reducible refine (D2.out _).mono ?_)
  rintro e V3 ⟨rfl, hb⟩
  replace C0 := C0.keep hb (by omega)
  replace z0 : w.heap.size + 1 ≤ V3.heap.size := by have := hb.size; omega
  replace HB := Lib.hid (HB.out.trans (hb.mono HB.out.size))
  clear hb
  have o00 := C0.1
  have o01 := C0.2.1
  have o02 := C0.2.2
  go_wp2_with fail
  clear o00 o01 o02
  (with_reducible refine (D4.out _).mono ?_)
  rintro e V4 ⟨rfl, hb⟩
  replace C0 := C0.keep hb (by omega)
  replace z0 : w.heap.size + 1 ≤ V4.heap.size := by have := hb.size; omega
  replace HB := Lib.hid (HB.out.trans (hb.mono HB.out.size))
  clear hb
  have ba : Below V4.heap.size V4 (V4.alloc (.cells #[.bool (psN s), .string (psI s), .string (psF s)] 23)) := (Below.refl _ _).alloc (Nat.le_refl _) _
  replace C0 := C0.keep ba (by omega)
  replace z0 : w.heap.size + 1 ≤ (V4.alloc (.cells #[.bool (psN s), .string (psI s), .string (psF s)] 23)).heap.size := by have := ba.size; omega
  replace HB := Lib.hid (HB.out.trans (ba.mono HB.out.size))
  clear ba
  have C1 : Cells3 (V4.alloc (.cells #[.bool (psN s), .string (psI s), .string (psF s)] 23)) V4.heap.size (.bool (psN s)) (.string (psI s)) (.string (psF s)) := (one_box V4 _ _ _ _).2.1
  have z1 : V4.heap.size + 1 ≤ (V4.alloc (.cells #[.bool (psN s), .string (psI s), .string (psF s)] 23)).heap.size := by simp
  have o00 := C0.1
  have o10 := C1.1
  have o01 := C0.2.1
  have o02 := C0.2.2
  have o11 := C1.2.1
  have o12 := C1.2.2
  go_wp2_with fail
  clear o00 o01 o02 o10 o11 o12
  obtain ⟨V4x, hV4x⟩ : ∃ V4x, V4x = V4.alloc (.cells #[.bool (psN s), .string (psI s), .string (psF s)] 23) := ⟨_, rfl⟩
  rw [← hV4x]
  rw [← hV4x] at HB C0 z0 C1 z1
  clear hV4x
  (with_reducible refine (D5.out _).mono ?_)
  rintro e V5 ⟨rfl, hb⟩
  replace C0 := C0.keep hb (by omega)
  replace z0 : w.heap.size + 1 ≤ V5.heap.size := by have := hb.size; omega
  replace C1 := C1.keep hb (by omega)
  replace z1 : V4.heap.size + 1 ≤ V5.heap.size := by have := hb.size; omega
  replace HB := Lib.hid (HB.out.trans (hb.mono HB.out.size))
  clear hb
  have o00 := C0.1
  have o10 := C1.1
  have o01 := C0.2.1
  have o02 := C0.2.2
  have o11 := C1.2.1
  have o12 := C1.2.2
  go_wp2
  go_ret
  exact ⟨rfl, HB.out⟩

set_option maxHeartbeats 4000000 in
set_option maxRecDepth 100000 in
theorem back_d (n : Bool) (i f s : ByteArray) (w : World) (hi : i.size ≤ 140737488355328) (hf : f.size ≤ 140737488355328) (hs : s.size ≤ 140737488355328) (hk : okB n i f = false) (hr : psE s ≠ 0) :
    Calls Try.prog 8 #[.agg #[.bool n, .string i, .string f], .string s] w fun e w' => e = .returned (.bool true) ∧ Below w.heap.size w w' := by
  have DW := Lib.hid awake_any
  have D1 := Lib.hid (fun wx => print_bad n i f wx hi hf hk)
  have D2 := Lib.hid (fun wx => refCheck_bad n i f wx hi hf hk)
  have D4 := Lib.hid (fun wx => parse_any s wx (by unfold maxLen; omega))
  have q5 : (psE s != 0) = true := by simpa using hr
  generalize psE s = pe at *
  clear hr
  go_enter Try.func8, Try.ntmps8
  go_wp2_with fail
  obtain ⟨W0, hW0⟩ : ∃ W0, W0 = (w.alloc (.cells #[.bool n, .string i, .string f] 23)) := ⟨_, rfl⟩
  obtain ⟨hB, hz, C0, _⟩ : Below w.heap.size w W0 ∧ w.heap.size + 1 ≤ W0.heap.size ∧ Cells3 W0 w.heap.size (.bool n) (.string i) (.string f) ∧ ∀ i, W0.frozen? ⟨w.heap.size, i, none⟩ = false := by rw [hW0]; exact ⟨(Below.refl _ w).alloc (Nat.le_refl _) _, one_box w _ _ _ _⟩
  have z0 : w.heap.size + 1 ≤ W0.heap.size := by omega
  rw [← hW0]
  have HB := Lib.hid hB
  clear hW0 hB hz
  (with_reducible refine (DW.out _).mono ?_)
  rintro e V1 ⟨rfl, hb⟩
  replace C0 := C0.keep hb (by omega)
  replace z0 : w.heap.size + 1 ≤ V1.heap.size := by have := hb.size; omega
  replace HB := Lib.hid (HB.out.trans (hb.mono HB.out.size))
  clear hb
  have o00 := C0.1
  have o01 := C0.2.1
  have o02 := C0.2.2
  go_wp2_with fail
  clear o00 o01 o02
  (with_reducible refine (D1.out _).mono ?_)
  rintro e V2 ⟨rfl, hb⟩
  replace C0 := C0.keep hb (by omega)
  replace z0 : w.heap.size + 1 ≤ V2.heap.size := by have := hb.size; omega
  replace HB := Lib.hid (HB.out.trans (hb.mono HB.out.size))
  clear hb
  have o00 := C0.1
  have o01 := C0.2.1
  have o02 := C0.2.2
  go_wp2_with fail
  clear o00 o01 o02
  (with_reducible refine (D2.out _).mono ?_)
  rintro e V3 ⟨rfl, hb⟩
  replace C0 := C0.keep hb (by omega)
  replace z0 : w.heap.size + 1 ≤ V3.heap.size := by have := hb.size; omega
  replace HB := Lib.hid (HB.out.trans (hb.mono HB.out.size))
  clear hb
  have o00 := C0.1
  have o01 := C0.2.1
  have o02 := C0.2.2
  go_wp2_with fail
  clear o00 o01 o02
  (with_reducible refine (D4.out _).mono ?_)
  rintro e V4 ⟨rfl, hb⟩
  replace C0 := C0.keep hb (by omega)
  replace z0 : w.heap.size + 1 ≤ V4.heap.size := by have := hb.size; omega
  replace HB := Lib.hid (HB.out.trans (hb.mono HB.out.size))
  clear hb
  have ba : Below V4.heap.size V4 (V4.alloc (.cells #[.bool (psN s), .string (psI s), .string (psF s)] 23)) := (Below.refl _ _).alloc (Nat.le_refl _) _
  replace C0 := C0.keep ba (by omega)
  replace z0 : w.heap.size + 1 ≤ (V4.alloc (.cells #[.bool (psN s), .string (psI s), .string (psF s)] 23)).heap.size := by have := ba.size; omega
  replace HB := Lib.hid (HB.out.trans (ba.mono HB.out.size))
  clear ba
  have C1 : Cells3 (V4.alloc (.cells #[.bool (psN s), .string (psI s), .string (psF s)] 23)) V4.heap.size (.bool (psN s)) (.string (psI s)) (.string (psF s)) := (one_box V4 _ _ _ _).2.1
  have z1 : V4.heap.size + 1 ≤ (V4.alloc (.cells #[.bool (psN s), .string (psI s), .string (psF s)] 23)).heap.size := by simp
  have o00 := C0.1
  have o10 := C1.1
  have o01 := C0.2.1
  have o02 := C0.2.2
  have o11 := C1.2.1
  have o12 := C1.2.2
  go_wp2
  go_ret
  exact ⟨rfl, HB.out⟩

theorem back_walk (n : Bool) (i f s : ByteArray) (w : World) (hi : i.size ≤ 140737488355328) (hf : f.size ≤ 140737488355328) (hs : s.size ≤ 140737488355328) :
    Calls Try.prog 8 #[.agg #[.bool n, .string i, .string f], .string s] w fun e w' => e = .returned (.bool true) ∧ Below w.heap.size w w' := by
  cases hk : okB n i f with
  | true =>
    obtain ⟨d, hd, rfl, rfl, rfl⟩ := ok_cases hk
    by_cases hr : psE s = 0
    · exact back_a d s w hd hs hr
    · exact back_b d s w hd hs hr
  | false =>
    by_cases hr : psE s = 0
    · exact back_c n i f s w hi hf hs hk hr
    · exact back_d n i f s w hi hf hs hk hr
end Go.Proofs.Ytohppejblbeemaa
