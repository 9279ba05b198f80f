/- Check of the program, where the operands may be. -/
import Derived.Test.YtmggdnnffdaffaaDoorOpC
import Derived.Test.YtmggdnnffdaffaaDoorDRefPad
namespace Go.Proofs.YtmggdnnffdaffaaDoor
open Go.RowKit
attribute [local go_sem ↓] Go.wp_at_zero Go.wp_at_succ

/-- What was trimmed, padded again. -/
theorem trim_pad {x t : Dc} (hx : x.Ok) (hn : x.neg = false) (ht : trimD x = t) : t.Ok ∧ t.neg = false ∧ padD t x.f.length = some x := by
  subst ht
  have hf := trim_facts hx
  refine ⟨hf.1, hn, ?_⟩
  have hl : (trimD x).f.length ≤ x.f.length := by show (x.f.take _).length ≤ _; rw [List.length_take]; omega
  have hz : ∀ k, k ≤ x.f.length → x.f = x.f.take (trimTo x.f k) ++ List.replicate (k - trimTo x.f k) 0 ++ x.f.drop k := by
    intro k
    induction k with
    | zero => intro _; show x.f = x.f.take 0 ++ _ ++ _; simp [trimTo]
    | succ k ih =>
      intro hk
      have ih := ih (by omega)
      by_cases h0 : x.f.getD k 0 = 0
      · have e : trimTo x.f (k + 1) = trimTo x.f k := if_pos h0
        have hle := trimTo_le x.f k
        have hdk : x.f.drop k = 0 :: x.f.drop (k + 1) := by
          rw [getD_at k (by omega)] at h0
          rw [List.drop_eq_getElem_cons (by omega : k < x.f.length), h0]
        rw [e, show k + 1 - trimTo x.f k = (k - trimTo x.f k) + 1 by omega, List.replicate_succ', List.append_assoc, List.append_assoc, List.singleton_append, ← hdk, ← List.append_assoc]
        exact ih
      · have e : trimTo x.f (k + 1) = k + 1 := if_neg h0
        rw [e]
        simp
  have hz := hz x.f.length (Nat.le_refl _)
  have hpf := pad_form hf.1 x.f.length x.f.length (by omega)
  rw [hpf, if_neg (by show ¬ 40 < x.i.length + x.f.length; have := hx.most; omega)]
  congr 1
  show (⟨x.neg, x.i, x.f.take (trimTo x.f x.f.length) ++ List.replicate (x.f.length - (x.f.take (trimTo x.f x.f.length)).length) 0⟩ : Dc) = x
  have hlen : (x.f.take (trimTo x.f x.f.length)).length = trimTo x.f x.f.length := by rw [List.length_take]; have := trimTo_le x.f x.f.length; omega
  rw [hlen]
  rw [List.drop_length, List.append_nil] at hz
  rw [← hz]

set_option maxHeartbeats 4000000 in
set_option maxRecDepth 100000 in
theorem ocheck_ok (x t : Dc) (k : Int) (w : World) (hx : x.Ok) (hn : x.neg = false) (hk1 : 0 ≤ k) (hk2 : k ≤ 40) (ht : trimD x = t) :
    Calls Tryd.prog 21 #[.agg #[.bool false, .string (dStr t.i), .string (dStr t.f), .string (dStr x.i), .int .i64 x.f.length, .int .i64 t.f.length, .string (dStr (intg x.f)), .string (dStr (intg t.f)), .int .i64 k]] w fun e w' => e = .returned (.int .i64 0) ∧ Below w.heap.size w w' := by
  obtain ⟨hto, htn, htp⟩ := trim_pad hx hn ht
  have hxe : (⟨false, x.i, x.f⟩ : Dc) = x := by rw [← hn]
  have hxl : x.f.length ≤ 40 := by have := hx.most; omega
  have DP : Hid (∀ wx : World, Calls Tryd.prog 40 #[.agg #[.bool false, .string (dStr t.i), .string (dStr t.f)], .int .i64 x.f.length] wx fun e w' => e = .returned (.tuple #[.agg #[.bool false, .string (dStr x.i), .string (dStr x.f)], .int .i64 0]) ∧ Below wx.heap.size wx w') := fun wx => by
    have := pad_ok t x.f.length wx (some x) htp hto hxl
    rw [htn] at this
    simp only [oN, oI, oF, oE] at this
    rw [hn] at this
    exact this
  have DE : Hid (∀ wx : World, Calls Tryd.prog 17 #[.int .i64 k] wx fun e w' => e = .returned (.bool true) ∧ wx = w') := fun wx => by
    have := isExp_any k wx
    rw [decide_eq_true ⟨hk1, hk2⟩] at this
    exact this
  have DO : Hid (∀ wx : World, Calls Tryd.prog 19 #[.agg #[.bool false, .string (dStr x.i), .string (dStr x.f)], .int .i64 k] wx fun e w' => e = .returned (.agg #[.bool false, .string (dStr t.i), .string (dStr t.f), .string (dStr x.i), .int .i64 x.f.length, .int .i64 t.f.length, .string (dStr (intg x.f)), .string (dStr (intg t.f)), .int .i64 k]) ∧ Below wx.heap.size wx w') := fun wx => by
    have := operandsOf_any x t k wx (by rw [hxe]; exact ht) hx
    rw [hn] at this
    exact this
  clear hx hto htn htp hxe hxl ht hn
  go_enter Tryd.func21, Tryd.ntmps21
  go_wp2_with fail
  obtain ⟨W2, hW2⟩ : ∃ W2, W2 = w.alloc (.cells #[.bool false, .string (dStr t.i), .string (dStr t.f), .string (dStr x.i), .int .i64 x.f.length, .int .i64 t.f.length, .string (dStr (intg x.f)), .string (dStr (intg t.f)), .int .i64 k] 30) := ⟨_, rfl⟩
  obtain ⟨hz2, CA, -⟩ := nine_box w (.bool false) (.string (dStr t.i)) (.string (dStr t.f)) (.string (dStr x.i)) (.int .i64 x.f.length) (.int .i64 t.f.length) (.string (dStr (intg x.f))) (.string (dStr (intg t.f))) (.int .i64 k) 30
  have hb2 : Below w.heap.size w W2 := by rw [hW2]; exact (Below.refl _ w).alloc (Nat.le_refl _) _
  rw [← hW2] at hz2 CA ⊢
  clear hW2
  (with_reducible refine (DP.out _).mono ?_)
  rintro e W3 ⟨rfl, hb3⟩
  obtain ⟨W4, hW4⟩ : ∃ W4, W4 = W3.alloc (.cells #[.bool false, .string (dStr x.i), .string (dStr x.f)] 27) := ⟨_, rfl⟩
  have ba : Below W3.heap.size W3 W4 := by rw [hW4]; exact (Below.refl _ _).alloc (Nat.le_refl _) _
  have CA3 := CA.keep hb3 (by omega)
  have hz3 : w.heap.size + 1 ≤ W3.heap.size := by have := hb3.size; omega
  have CA4 := CA3.keep ba (by omega)
  have hz4 : W3.heap.size + 1 ≤ W4.heap.size := by rw [hW4]; simp
  have CX : Cells3 W4 W3.heap.size (.bool false) (.string (dStr x.i)) (.string (dStr x.f)) := by rw [hW4]; exact (one_box _ _ _ _ _).2.1
  have B4 := Lib.hid ((hb2.trans (hb3.mono hb2.size)).trans (ba.mono (by have := hb3.size; have := hb2.size; omega)))
  have HW4 := Lib.hid hW4
  clear hW4 ba CA CA3 hb2 hb3 hz2
  obtain ⟨a0, a1, a2, a3, a4, a5, a6, a7, a8⟩ := CA4
  obtain ⟨c0, c1, c2⟩ := CX
  have HA : Hid (Cells9 W4 w.heap.size (.bool false) (.string (dStr t.i)) (.string (dStr t.f)) (.string (dStr x.i)) (.int .i64 x.f.length) (.int .i64 t.f.length) (.string (dStr (intg x.f))) (.string (dStr (intg t.f))) (.int .i64 k)) := ⟨a0, a1, a2, a3, a4, a5, a6, a7, a8⟩
  have HX : Hid (Cells3 W4 W3.heap.size (.bool false) (.string (dStr x.i)) (.string (dStr x.f))) := ⟨c0, c1, c2⟩
  go_wp2_with fail
  rw [← HW4.out]
  go_region_held3 (fun w' => w'.cell? ⟨w.heap.size, 0, none⟩ = some (.bool false) ∧ w'.cell? ⟨w.heap.size, 1, none⟩ = some (.string (dStr t.i)) ∧ w'.cell? ⟨w.heap.size, 2, none⟩ = some (.string (dStr t.f)) ∧ w'.cell? ⟨w.heap.size, 3, none⟩ = some (.string (dStr x.i)) ∧ w'.cell? ⟨w.heap.size, 4, none⟩ = some (.int .i64 x.f.length) ∧ w'.cell? ⟨w.heap.size, 5, none⟩ = some (.int .i64 t.f.length) ∧ w'.cell? ⟨w.heap.size, 6, none⟩ = some (.string (dStr (intg x.f))) ∧ w'.cell? ⟨w.heap.size, 7, none⟩ = some (.string (dStr (intg t.f))) ∧ w'.cell? ⟨w.heap.size, 8, none⟩ = some (.int .i64 k) ∧ w'.cell? ⟨W3.heap.size, 0, none⟩ = some (.bool false) ∧ w'.cell? ⟨W3.heap.size, 1, none⟩ = some (.string (dStr x.i)) ∧ w'.cell? ⟨W3.heap.size, 2, none⟩ = some (.string (dStr x.f)))
    (first
      | (with_reducible exact ⟨a0, a1, a2, a3, a4, a5, a6, a7, a8, c0, c1, c2⟩)
      | (with_reducible exact ⟨(drew_cell _ _).trans a0, (drew_cell _ _).trans a1, (drew_cell _ _).trans a2, (drew_cell _ _).trans a3, (drew_cell _ _).trans a4, (drew_cell _ _).trans a5, (drew_cell _ _).trans a6, (drew_cell _ _).trans a7, (drew_cell _ _).trans a8, (drew_cell _ _).trans c0, (drew_cell _ _).trans c1, (drew_cell _ _).trans c2⟩)
      | (have t := HA.out.keep (undrew hbA) (by omega); have u := HX.out.keep (undrew hbA) (by omega); obtain ⟨t0, t1, t2, t3, t4, t5, t6, t7, t8⟩ := t; exact ⟨t0, t1, t2, t3, t4, t5, t6, t7, t8, u.1, u.2.1, u.2.2⟩))
    (first
      | (go_at_call 17; (with_reducible refine (DE.out _).mono ?_); rintro e wE ⟨rfl, rfl⟩)
      | (go_at_call 19; (with_reducible refine (DO.out _).mono ?_); rintro e wA ⟨rfl, hbA⟩))
  go_wp2
  go_ret
  exact ⟨rfl, B4.out.trans ((undrew hbA).mono B4.out.size)⟩

end Go.Proofs.YtmggdnnffdaffaaDoor
