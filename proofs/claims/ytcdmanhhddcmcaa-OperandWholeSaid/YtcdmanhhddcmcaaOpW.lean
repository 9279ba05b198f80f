/- In of the program. -/
import Derived.Test.YtcdmanhhddcmcaaOpV
namespace Go.Proofs.Ytcdmanhhddcmcaa
open Go.RowKit
attribute [local go_sem ↓] Go.wp_at_zero Go.wp_at_succ

set_option maxHeartbeats 4000000 in
set_option maxRecDepth 100000 in
theorem in_go (on : Bool) (oi oj oI : ByteArray) (oV oW : Int) (oG oT : ByteArray) (oX : Int) (rO rM : ByteArray) (rN rW : Bool) (sv : Value) (xn : Bool) (xi xf : ByteArray) (b : Bool) (w : World)
    (H1 : ∀ wx : World, Calls Try.prog 24 #[.agg #[.bool on, .string oi, .string oj, .string oI, .int .i64 oV, .int .i64 oW, .string oG, .string oT, .int .i64 oX], .string rO, .string rM] wx fun e w' => e = .returned (.tuple #[.agg #[.bool xn, .string xi, .string xf], .int .i64 0]) ∧ Below wx.heap.size wx w')
    (H2 : ∀ wx : World, Below w.heap.size w wx → Calls Try.prog 50 #[sv] wx fun e w' => e = .returned (.bool true) ∧ Below wx.heap.size wx w')
    (H3 : ∀ wx : World, Below w.heap.size w wx → Calls Try.prog 51 #[.agg #[.bool xn, .string xi, .string xf], .agg #[.string rO, .string rM, .bool rN, .bool rW, sv]] wx fun e w' => e = .returned (.bool b) ∧ Below wx.heap.size wx w') :
    Calls Try.prog 23 #[.agg #[.bool on, .string oi, .string oj, .string oI, .int .i64 oV, .int .i64 oW, .string oG, .string oT, .int .i64 oX], .agg #[.string rO, .string rM, .bool rN, .bool rW, sv]] w fun e w' => e = .returned (.tuple #[.bool (b != rN), .int .i64 0]) ∧ Below w.heap.size w w' := by
  have D1 := Lib.hid H1
  have D2 := Lib.hid H2
  have D3 := Lib.hid H3
  clear H1 H2 H3
  go_enter Try.func23, Try.ntmps23
  go_wp2_with fail
  obtain ⟨W2, hW2⟩ : ∃ W2, W2 = (w.alloc (.cells #[.bool on, .string oi, .string oj, .string oI, .int .i64 oV, .int .i64 oW, .string oG, .string oT, .int .i64 oX] 25)).alloc (.cells #[.string rO, .string rM, .bool rN, .bool rW, sv] 39) := ⟨_, rfl⟩
  obtain ⟨hb2, hz2, CR⟩ : Below w.heap.size w W2 ∧ w.heap.size + 2 ≤ W2.heap.size ∧ Cells5 W2 (w.heap.size + 1) (.string rO) (.string rM) (.bool rN) (.bool rW) sv := by
    rw [hW2]
    have c2 := (five_box (w.alloc (.cells #[.bool on, .string oi, .string oj, .string oI, .int .i64 oV, .int .i64 oW, .string oG, .string oT, .int .i64 oX] 25)) (.string rO) (.string rM) (.bool rN) (.bool rW) (sv) 39).2.1
    have hs : (w.alloc (.cells #[.bool on, .string oi, .string oj, .string oI, .int .i64 oV, .int .i64 oW, .string oG, .string oT, .int .i64 oX] 25)).heap.size = w.heap.size + 1 := by simp
    rw [hs] at c2
    exact ⟨below_two w _ _, by simp, c2⟩
  rw [← hW2]
  clear hW2
  (with_reducible refine (D1.out _).mono ?_)
  rintro e W3 ⟨rfl, hb3⟩
  have h3 := hb3.size
  have ba : Below W3.heap.size W3 (W3.alloc (.cells #[.bool xn, .string xi, .string xf] 23)) := (Below.refl _ _).alloc (Nat.le_refl _) _
  have CR4 := (CR.keep hb3 (by omega)).keep ba (by omega)
  have CX4 := (one_box W3 (.bool xn) (.string xi) (.string xf) 23).2.1
  have B4 : Below w.heap.size w (W3.alloc (.cells #[.bool xn, .string xi, .string xf] 23)) := (hb2.trans (hb3.mono hb2.size)).trans (ba.mono (by omega))
  have KR4 := Lib.hid CR4
  have KX4 := Lib.hid CX4
  have KB4 := Lib.hid B4
  clear hb3 hb2 CR ba B4
  obtain ⟨r0, r1, r2, r3, r4⟩ := CR4
  obtain ⟨x0, x1, x2⟩ := CX4
  go_wp2_with fail
  obtain ⟨V, hV⟩ : ∃ V, V = W3.alloc (.cells #[.bool xn, .string xi, .string xf] 23) := ⟨_, rfl⟩
  have hzV : W3.heap.size + 1 ≤ V.heap.size := by rw [hV]; simp
  rw [← hV] at KR4 KX4 KB4 ⊢
  clear hV r0 r1 r2 r3 r4 x0 x1 x2
  (with_reducible refine (D2.out _ KB4.out).mono ?_)
  rintro e W5 ⟨rfl, hb5⟩
  have h5 := hb5.size
  have KR5 := Lib.hid (KR4.out.keep hb5 (by omega))
  have KX5 := Lib.hid (KX4.out.keep hb5 (by omega))
  have KB5 := Lib.hid (KB4.out.trans (hb5.mono KB4.out.size))
  clear hb5 KR4 KX4 KB4
  obtain ⟨r0, r1, r2, r3, r4⟩ := KR5.out
  obtain ⟨x0, x1, x2⟩ := KX5.out
  have hd3 := D3.out
  go_wp2_with fail
  go_region_held3 (fun w' => w'.cell? ⟨w.heap.size + 1, 0, none⟩ = some (.string rO) ∧ w'.cell? ⟨w.heap.size + 1, 1, none⟩ = some (.string rM) ∧ w'.cell? ⟨w.heap.size + 1, 2, none⟩ = some (.bool rN) ∧ w'.cell? ⟨w.heap.size + 1, 3, none⟩ = some (.bool rW) ∧ w'.cell? ⟨w.heap.size + 1, 4, none⟩ = some (sv) ∧ w'.cell? ⟨W3.heap.size, 0, none⟩ = some (.bool xn) ∧ w'.cell? ⟨W3.heap.size, 1, none⟩ = some (.string xi) ∧ w'.cell? ⟨W3.heap.size, 2, none⟩ = some (.string xf))
    (first
      | (with_reducible exact ⟨r0, r1, r2, r3, r4, x0, x1, x2⟩)
      | (with_reducible exact ⟨(drew_cell _ _).trans r0, (drew_cell _ _).trans r1, (drew_cell _ _).trans r2, (drew_cell _ _).trans r3, (drew_cell _ _).trans r4, (drew_cell _ _).trans x0, (drew_cell _ _).trans x1, (drew_cell _ _).trans x2⟩)
      | (have t := KR5.out.keep hA (by omega); have u := KX5.out.keep hA (by omega); obtain ⟨t0, t1, t2, t3, t4⟩ := t; obtain ⟨u0, u1, u2⟩ := u; with_reducible exact ⟨t0, t1, t2, t3, t4, u0, u1, u2⟩))
    (first
      | (go_at_call 51; (with_reducible refine (hd3 _ (drew1 KB5.out)).mono ?_); rintro e wA ⟨rfl, hbA⟩; have hA : Below W5.heap.size W5 wA := undrew hbA))
  all_goals
    have hend := Lib.hid (KB5.out.trans (hA.mono KB5.out.size))
    go_wp2
    go_ret2
    exact ⟨rfl, hend.out⟩

set_option maxHeartbeats 4000000 in
set_option maxRecDepth 100000 in
theorem in_err (on : Bool) (oi oj oI : ByteArray) (oV oW : Int) (oG oT : ByteArray) (oX : Int) (rO rM : ByteArray) (rN rW : Bool) (sv : Value) (xn : Bool) (xi xf : ByteArray)  (w : World)
    (H1 : ∀ wx : World, Calls Try.prog 24 #[.agg #[.bool on, .string oi, .string oj, .string oI, .int .i64 oV, .int .i64 oW, .string oG, .string oT, .int .i64 oX], .string rO, .string rM] wx fun e w' => e = .returned (.tuple #[.agg #[.bool xn, .string xi, .string xf], .int .i64 40]) ∧ Below wx.heap.size wx w') :
    Calls Try.prog 23 #[.agg #[.bool on, .string oi, .string oj, .string oI, .int .i64 oV, .int .i64 oW, .string oG, .string oT, .int .i64 oX], .agg #[.string rO, .string rM, .bool rN, .bool rW, sv]] w fun e w' => e = .returned (.tuple #[.bool false, .int .i64 40]) ∧ Below w.heap.size w w' := by
  have D1 := Lib.hid H1
  clear H1
  go_enter Try.func23, Try.ntmps23
  go_wp2_with fail
  obtain ⟨W2, hW2⟩ : ∃ W2, W2 = (w.alloc (.cells #[.bool on, .string oi, .string oj, .string oI, .int .i64 oV, .int .i64 oW, .string oG, .string oT, .int .i64 oX] 25)).alloc (.cells #[.string rO, .string rM, .bool rN, .bool rW, sv] 39) := ⟨_, rfl⟩
  obtain ⟨hb2, hz2, CR⟩ : Below w.heap.size w W2 ∧ w.heap.size + 2 ≤ W2.heap.size ∧ Cells5 W2 (w.heap.size + 1) (.string rO) (.string rM) (.bool rN) (.bool rW) sv := by
    rw [hW2]
    have c2 := (five_box (w.alloc (.cells #[.bool on, .string oi, .string oj, .string oI, .int .i64 oV, .int .i64 oW, .string oG, .string oT, .int .i64 oX] 25)) (.string rO) (.string rM) (.bool rN) (.bool rW) (sv) 39).2.1
    have hs : (w.alloc (.cells #[.bool on, .string oi, .string oj, .string oI, .int .i64 oV, .int .i64 oW, .string oG, .string oT, .int .i64 oX] 25)).heap.size = w.heap.size + 1 := by simp
    rw [hs] at c2
    exact ⟨below_two w _ _, by simp, c2⟩
  rw [← hW2]
  clear hW2
  (with_reducible refine (D1.out _).mono ?_)
  rintro e W3 ⟨rfl, hb3⟩
  have h3 := hb3.size
  have ba : Below W3.heap.size W3 (W3.alloc (.cells #[.bool xn, .string xi, .string xf] 23)) := (Below.refl _ _).alloc (Nat.le_refl _) _
  have CR4 := (CR.keep hb3 (by omega)).keep ba (by omega)
  have CX4 := (one_box W3 (.bool xn) (.string xi) (.string xf) 23).2.1
  have B4 : Below w.heap.size w (W3.alloc (.cells #[.bool xn, .string xi, .string xf] 23)) := (hb2.trans (hb3.mono hb2.size)).trans (ba.mono (by omega))
  have KR4 := Lib.hid CR4
  have KX4 := Lib.hid CX4
  have KB4 := Lib.hid B4
  clear hb3 hb2 CR ba B4
  obtain ⟨r0, r1, r2, r3, r4⟩ := CR4
  obtain ⟨x0, x1, x2⟩ := CX4
  go_wp2
  go_ret2
  exact ⟨rfl, KB4.out⟩

set_option maxHeartbeats 4000000 in
set_option maxRecDepth 100000 in
theorem in_list (on : Bool) (oi oj oI : ByteArray) (oV oW : Int) (oG oT : ByteArray) (oX : Int) (rO rM : ByteArray) (rN rW : Bool) (sv : Value) (xn : Bool) (xi xf : ByteArray)  (w : World)
    (H1 : ∀ wx : World, Calls Try.prog 24 #[.agg #[.bool on, .string oi, .string oj, .string oI, .int .i64 oV, .int .i64 oW, .string oG, .string oT, .int .i64 oX], .string rO, .string rM] wx fun e w' => e = .returned (.tuple #[.agg #[.bool xn, .string xi, .string xf], .int .i64 0]) ∧ Below wx.heap.size wx w')
    (H2 : ∀ wx : World, Below w.heap.size w wx → Calls Try.prog 50 #[sv] wx fun e w' => e = .returned (.bool false) ∧ Below wx.heap.size wx w') :
    Calls Try.prog 23 #[.agg #[.bool on, .string oi, .string oj, .string oI, .int .i64 oV, .int .i64 oW, .string oG, .string oT, .int .i64 oX], .agg #[.string rO, .string rM, .bool rN, .bool rW, sv]] w fun e w' => e = .returned (.tuple #[.bool false, .int .i64 40]) ∧ Below w.heap.size w w' := by
  have D1 := Lib.hid H1
  have D2 := Lib.hid H2
  clear H1 H2
  go_enter Try.func23, Try.ntmps23
  go_wp2_with fail
  obtain ⟨W2, hW2⟩ : ∃ W2, W2 = (w.alloc (.cells #[.bool on, .string oi, .string oj, .string oI, .int .i64 oV, .int .i64 oW, .string oG, .string oT, .int .i64 oX] 25)).alloc (.cells #[.string rO, .string rM, .bool rN, .bool rW, sv] 39) := ⟨_, rfl⟩
  obtain ⟨hb2, hz2, CR⟩ : Below w.heap.size w W2 ∧ w.heap.size + 2 ≤ W2.heap.size ∧ Cells5 W2 (w.heap.size + 1) (.string rO) (.string rM) (.bool rN) (.bool rW) sv := by
    rw [hW2]
    have c2 := (five_box (w.alloc (.cells #[.bool on, .string oi, .string oj, .string oI, .int .i64 oV, .int .i64 oW, .string oG, .string oT, .int .i64 oX] 25)) (.string rO) (.string rM) (.bool rN) (.bool rW) (sv) 39).2.1
    have hs : (w.alloc (.cells #[.bool on, .string oi, .string oj, .string oI, .int .i64 oV, .int .i64 oW, .string oG, .string oT, .int .i64 oX] 25)).heap.size = w.heap.size + 1 := by simp
    rw [hs] at c2
    exact ⟨below_two w _ _, by simp, c2⟩
  rw [← hW2]
  clear hW2
  (with_reducible refine (D1.out _).mono ?_)
  rintro e W3 ⟨rfl, hb3⟩
  have h3 := hb3.size
  have ba : Below W3.heap.size W3 (W3.alloc (.cells #[.bool xn, .string xi, .string xf] 23)) := (Below.refl _ _).alloc (Nat.le_refl _) _
  have CR4 := (CR.keep hb3 (by omega)).keep ba (by omega)
  have CX4 := (one_box W3 (.bool xn) (.string xi) (.string xf) 23).2.1
  have B4 : Below w.heap.size w (W3.alloc (.cells #[.bool xn, .string xi, .string xf] 23)) := (hb2.trans (hb3.mono hb2.size)).trans (ba.mono (by omega))
  have KR4 := Lib.hid CR4
  have KX4 := Lib.hid CX4
  have KB4 := Lib.hid B4
  clear hb3 hb2 CR ba B4
  obtain ⟨r0, r1, r2, r3, r4⟩ := CR4
  obtain ⟨x0, x1, x2⟩ := CX4
  go_wp2_with fail
  obtain ⟨V, hV⟩ : ∃ V, V = W3.alloc (.cells #[.bool xn, .string xi, .string xf] 23) := ⟨_, rfl⟩
  have hzV : W3.heap.size + 1 ≤ V.heap.size := by rw [hV]; simp
  rw [← hV] at KR4 KX4 KB4 ⊢
  clear hV r0 r1 r2 r3 r4 x0 x1 x2
  (with_reducible refine (D2.out _ KB4.out).mono ?_)
  rintro e W5 ⟨rfl, hb5⟩
  have h5 := hb5.size
  have KR5 := Lib.hid (KR4.out.keep hb5 (by omega))
  have KX5 := Lib.hid (KX4.out.keep hb5 (by omega))
  have KB5 := Lib.hid (KB4.out.trans (hb5.mono KB4.out.size))
  clear hb5 KR4 KX4 KB4
  go_wp2
  go_ret2
  exact ⟨rfl, KB5.out⟩

end Go.Proofs.Ytcdmanhhddcmcaa
