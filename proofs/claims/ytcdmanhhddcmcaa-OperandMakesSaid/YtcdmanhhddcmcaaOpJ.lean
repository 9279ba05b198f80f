/- shown of the reference. -/
import Derived.Test.YtcdmanhhddcmcaaOpI
import Derived.Test.YtcdmanhhddcmcaaDRefTrim
namespace Go.Proofs.Ytcdmanhhddcmcaa
open Go.RowKit
attribute [local go_sem ↓] Go.wp_at_zero Go.wp_at_succ
set_option maxHeartbeats 10000000 in
set_option maxRecDepth 100000 in
theorem refShown_any (d t : Dc) (k : Int) (w : World) (ht : trimD ⟨false, d.i, d.f⟩ = t) (hd : d.Ok) :
    Calls Try.prog 42 #[.agg #[.bool false, .string (dStr d.i), .string (dStr d.f)], .int .i64 k] w fun e w' => e = .returned (.agg #[.bool false, .string (dStr t.i), .string (dStr t.f), .string (dStr d.i), .int .i64 d.f.length, .int .i64 t.f.length, .string (dStr (intg d.f)), .string (dStr (intg t.f)), .int .i64 k]) ∧ Below w.heap.size w w' := by
  have htn : t.neg = false := by rw [← ht]; rfl
  have hto : t.Ok := by rw [← ht]; exact (trim_facts (absD_ok hd)).1
  have DT : Hid (∀ wx : World, Calls Try.prog 76 #[(.agg #[.bool false, .string (dStr d.i), .string (dStr d.f)])] wx fun e w' => e = .returned (.tuple #[.agg #[.bool false, .string (dStr t.i), .string (dStr t.f)], .int .i64 0]) ∧ Below wx.heap.size wx w') := fun wx => by
    have := refTrim_ok ⟨false, d.i, d.f⟩ wx (absD_ok hd)
    rw [ht, htn] at this
    exact this
  have D1 := Lib.hid (fun wx => refNumber_any d.f wx hd.df (by have := hd.most; omega))
  have D2 := Lib.hid (fun wx => refNumber_any t.f wx hto.df (by have := hto.most; omega))
  have sf : (dStr d.f).size = d.f.length := dStr_size d.f
  have st : (dStr t.f).size = t.f.length := dStr_size t.f
  clear ht hd hto htn
  go_enter Try.func42, Try.ntmps42
  go_wp2_with fail
  obtain ⟨W2, hW2⟩ : ∃ W2, W2 = (w.alloc (.cells #[.bool false, .string (dStr d.i), .string (dStr d.f)] 23)).alloc (.cells #[.bool false, .string ⟨#[]⟩, .string ⟨#[]⟩, .string ⟨#[]⟩, .int .i64 0, .int .i64 0, .string ⟨#[]⟩, .string ⟨#[]⟩, .int .i64 0] 25) := ⟨_, rfl⟩
  obtain ⟨hb2, hz2, CA, CR, FR⟩ : Below w.heap.size w W2 ∧ w.heap.size + 2 ≤ W2.heap.size ∧ Cells3 W2 w.heap.size (.bool false) (.string (dStr d.i)) (.string (dStr d.f)) ∧ Cells9 W2 (w.heap.size + 1) (.bool false) (.string ⟨#[]⟩) (.string ⟨#[]⟩) (.string ⟨#[]⟩) (.int .i64 0) (.int .i64 0) (.string ⟨#[]⟩) (.string ⟨#[]⟩) (.int .i64 0) ∧ ∀ i, W2.frozen? ⟨w.heap.size + 1, i, none⟩ = false := by
    rw [hW2]
    obtain ⟨s1, c1, f1⟩ := one_box w (.bool false) (.string (dStr d.i)) (.string (dStr d.f)) 23
    obtain ⟨s2, c2, f2⟩ := nine_box (w.alloc (.cells #[.bool false, .string (dStr d.i), .string (dStr d.f)] 23)) (.bool false) (.string ⟨#[]⟩) (.string ⟨#[]⟩) (.string ⟨#[]⟩) (.int .i64 0) (.int .i64 0) (.string ⟨#[]⟩) (.string ⟨#[]⟩) (.int .i64 0) 25
    have hs : (w.alloc (.cells #[.bool false, .string (dStr d.i), .string (dStr d.f)] 23)).heap.size = w.heap.size + 1 := by simp
    rw [hs] at c2 f2 s2
    exact ⟨below_two w _ _, s2, c1.keep ((Below.refl _ _).alloc (Nat.le_refl _) _) (by omega), c2, f2⟩
  rw [← hW2]
  clear hW2
  (with_reducible refine (DT.out _).mono ?_)
  rintro e W3 ⟨rfl, hb3⟩
  have CA3 := CA.keep hb3 (by omega)
  have CR3 := CR.keep hb3 (by omega)
  have FR3 := frozen_keep FR hb3 (by omega)
  have hz3 : w.heap.size + 2 ≤ W3.heap.size := by have := hb3.size; omega
  have B3 := Lib.hid (hb2.trans (hb3.mono hb2.size))
  clear hb3 hb2 CA CR FR hz2
  obtain ⟨W4, hW4⟩ : ∃ W4, W4 = W3.alloc (.cells #[.bool false, .string (dStr t.i), .string (dStr t.f)] 23) := ⟨_, rfl⟩
  have ba : Below W3.heap.size W3 W4 := by rw [hW4]; exact (Below.refl _ _).alloc (Nat.le_refl _) _
  have CA4 := CA3.keep ba (by omega)
  have CR4 := Lib.hid (CR3.keep ba (by omega))
  have FR4 := Lib.hid (frozen_keep FR3 ba (by omega))
  have B4 := Lib.hid (B3.out.trans (ba.mono B3.out.size))
  obtain ⟨hz4, CN4, -⟩ : W3.heap.size + 1 ≤ W4.heap.size ∧ Cells3 W4 W3.heap.size (.bool false) (.string (dStr t.i)) (.string (dStr t.f)) ∧ True := by rw [hW4]; exact ⟨(one_box _ _ _ _ _).1, (one_box _ _ _ _ _).2.1, trivial⟩
  have HW4 := Lib.hid hW4
  clear hW4 ba CA3 CR3 FR3 B3
  have a0 := CA4.1
  have a1 := CA4.2.1
  have a2 := CA4.2.2
  have n0 := CN4.1
  have n1 := CN4.2.1
  have n2 := CN4.2.2
  go_wp2_with fail
  rw [← HW4.out]
  obtain ⟨r0, r1, r2, r3, r4, r5, r6, r7, r8⟩ := CR4.out
  have z0 := FR4.out
  go_region_held3 (fun w' => w'.cell? ⟨w.heap.size, 0, none⟩ = some (.bool false) ∧ w'.cell? ⟨w.heap.size, 1, none⟩ = some (.string (dStr d.i)) ∧ w'.cell? ⟨w.heap.size, 2, none⟩ = some (.string (dStr d.f)) ∧ w'.cell? ⟨W3.heap.size, 0, none⟩ = some (.bool false) ∧ w'.cell? ⟨W3.heap.size, 1, none⟩ = some (.string (dStr t.i)) ∧ w'.cell? ⟨W3.heap.size, 2, none⟩ = some (.string (dStr t.f)))
    (first | (with_reducible exact ⟨a0, a1, a2, n0, n1, n2⟩) | (with_reducible exact ⟨(drew_cell _ _).trans a0, (drew_cell _ _).trans a1, (drew_cell _ _).trans a2, (drew_cell _ _).trans n0, (drew_cell _ _).trans n1, (drew_cell _ _).trans n2⟩) | (with_reducible (refine ⟨(far9d _ _ _ _ _ _ _ _ _ _ _ _ _ ?_).trans a0, (far9d _ _ _ _ _ _ _ _ _ _ _ _ _ ?_).trans a1, (far9d _ _ _ _ _ _ _ _ _ _ _ _ _ ?_).trans a2, (far9d _ _ _ _ _ _ _ _ _ _ _ _ _ ?_).trans n0, (far9d _ _ _ _ _ _ _ _ _ _ _ _ _ ?_).trans n1, (far9d _ _ _ _ _ _ _ _ _ _ _ _ _ ?_).trans n2⟩ <;> omega)))
    (first
      | (go_at_call 77; (with_reducible refine (D1.out _).mono ?_); rintro e wA ⟨rfl, rfl⟩)
      | (go_at_call 77; (with_reducible refine (D2.out _).mono ?_); rintro e wB ⟨rfl, rfl⟩))
  obtain ⟨e0, e1, e2, e3, e4, e5, e6, e7, e8⟩ := res_cells9 CR4.out (.bool false) (.string (dStr t.i)) (.string (dStr t.f)) (.string (dStr d.i)) (.int .i64 d.f.length) (.int .i64 t.f.length) (.string (dStr (intg d.f))) (.string (dStr (intg t.f))) (.int .i64 k)
  clear r0 r1 r2 r3 r4 r5 r6 r7 r8
  go_wp2
  exact bodyPost_ret (v := .agg #[.bool false, .string (dStr t.i), .string (dStr t.f), .string (dStr d.i), .int .i64 d.f.length, .int .i64 t.f.length, .string (dStr (intg d.f)), .string (dStr (intg t.f)), .int .i64 k]) (by simp [results, Try.results42, go_sem, e0, e1, e2, e3, e4, e5, e6, e7, e8]) rfl ⟨rfl, drew1 (res_below9 B4.out (Nat.le_succ _) _ _ _ _ _ _ _ _ _)⟩
end Go.Proofs.Ytcdmanhhddcmcaa
