/- Operands, merged: OpI, OpJ, DRefErr, DRefNum, DRefShiftA, DRefShiftB, OpK. -/
import Derived.Test.YtpbljcjghjbjdaaDoorOpG
import Derived.Test.YtpbljcjghjbjdaaDoorDRef2
import Derived.Test.YtpbljcjghjbjdaaDoorDRefTrim
import Derived.Test.YtpbljcjghjbjdaaDoorDRef1
import Derived.Test.YtpbljcjghjbjdaaDoorDRefMake
namespace Go.Proofs.YtpbljcjghjbjdaaDoor
section
open Go.RowKit
attribute [local go_sem ↓] Go.wp_at_zero Go.wp_at_succ

theorem intg_zero (m : List Nat) : intg (0 :: m) = intg m := by unfold intg; rw [dVal_cons, Nat.zero_mul, Nat.zero_add]
theorem intg_head {d : Nat} {m : List Nat} (hd : Digs (d :: m)) (h : d ≠ 0) : d :: m = intg (d :: m) := by
  have := intg_skip hd 0 (by simp) (fun j hj => by omega) (by simpa using h)
  simpa using this
theorem intg_nil : [0] = intg [] := intg_none (fun j hj => by simp at hj)
set_option maxHeartbeats 1000000 in
set_option maxRecDepth 100000 in
theorem refNumber_any (l : List Nat) (w : World) (hd : Digs l) (hl : l.length ≤ 1000000) :
    Calls Tryd.prog 112 #[.string (dStr l)] w fun e w' => e = .returned (.string (dStr (intg l))) ∧ w = w' := by
  have HDL := Lib.hid hd
  clear hd
  go_enter Tryd.func112, Tryd.ntmps112
  go_wp2
  go_loop [0] (fun v => ∃ m : List Nat, v = .string (dStr m) ∧ intg m = intg l ∧ Digs m ∧ m.length ≤ l.length) (fun v => sizeOfStr v)
  case atStart => exact ⟨l, rfl, rfl, HDL.out, Nat.le_refl _⟩
  case round =>
    obtain ⟨m, rfl, hm, hdm, hlm⟩ := hrel
    have HM := Lib.hid hm
    have HD := Lib.hid hdm
    have HLM := Lib.hid hlm
    clear hm hdm hlm
    match m, HM, HD, HLM with
    | [], HM, HD, HLM =>
      obtain ⟨S, hS⟩ : ∃ S, S = dStr [] := ⟨_, rfl⟩
      have hz : S.size = 0 := by rw [hS]; rfl
      have n1 : S.toList = [] := toList_nil.2 hz
      have n2 : S.toList.isEmpty = true := by rw [n1]; rfl
      have HR := Lib.hid (show dStr [0] = dStr (intg l) by rw [← HM.out, ← intg_nil])
      rw [← hS]
      clear hS
      go_wp2
      go_ret
      exact ⟨ret_s HR.out, rfl⟩
    | d :: m, HM, HD, HLM =>
      obtain ⟨S, hS⟩ : ∃ S, S = dStr (d :: m) := ⟨_, rfl⟩
      have hz : S.size = m.length + 1 := by rw [hS, dStr_size]; rfl
      have hks : 0 < S.size := by omega
      have hget : (S[0]'hks).toNat = 48 + d := by subst hS; exact dStr_get _ HD.out 0 hks
      have hlen : m.length ≤ 1000000 := by have := HLM.out; simp at this; omega
      have n1 : ¬ S.toList = [] := fun h => by have := toList_nil.1 h; omega
      have n2 : S.toList.isEmpty = false := by simpa using n1
      by_cases h0 : d = 0
      · have q48 : (((S[0]'hks).toNat : Int) == 48) = true := by rw [hget, h0]; rfl
        have HEX := Lib.hid (show S.extract 1 S.size = dStr m by rw [hS, dStr_size, dStr_ext, List.take_length]; rfl)
        have HZ := Lib.hid hz
        have HI := Lib.hid (show intg m = intg l by rw [← HM.out, h0, intg_zero])
        rw [← hS]
        clear hget h0 hS
        go_wp2
        go_round
        case rel => exact ⟨m, congrArg Value.string (by rw [← HZ.out]; exact HEX.out), HI.out, HD.out.tail, by have := HLM.out; simp at this ⊢; omega⟩
        case measure => simp [sizeOfStr, HZ.out]
      · have q48 : (((S[0]'hks).toNat : Int) == 48) = false := by rw [hget, beq_eq_false_iff_ne]; omega
        have HR := Lib.hid (show S = dStr (intg l) by rw [hS, ← HM.out, ← intg_head HD.out h0])
        rw [← hS]
        clear hget h0 hS
        go_wp2
        go_ret
        exact ⟨ret_s HR.out, rfl⟩
end
section
open Go.RowKit
attribute [local go_sem ↓] Go.wp_at_zero Go.wp_at_succ
set_option maxHeartbeats 10000000 in
set_option maxRecDepth 100000 in
theorem refShown_any (d t : Dc) (k : Int) (w : World) (ht : trimD ⟨false, d.i, d.f⟩ = t) (hd : d.Ok) :
    Calls Tryd.prog 73 #[.agg #[.bool false, .string (dStr d.i), .string (dStr d.f)], .int .i64 k] w fun e w' => e = .returned (.agg #[.bool false, .string (dStr t.i), .string (dStr t.f), .string (dStr d.i), .int .i64 d.f.length, .int .i64 t.f.length, .string (dStr (intg d.f)), .string (dStr (intg t.f)), .int .i64 k]) ∧ Below w.heap.size w w' := by
  have htn : t.neg = false := by rw [← ht]; rfl
  have hto : t.Ok := by rw [← ht]; exact (trim_facts (absD_ok hd)).1
  have DT : Hid (∀ wx : World, Calls Tryd.prog 65 #[(.agg #[.bool false, .string (dStr d.i), .string (dStr d.f)])] wx fun e w' => e = .returned (.tuple #[.agg #[.bool false, .string (dStr t.i), .string (dStr t.f)], .int .i64 0]) ∧ Below wx.heap.size wx w') := fun wx => by
    have := refTrim_ok ⟨false, d.i, d.f⟩ wx (absD_ok hd)
    rw [ht, htn] at this
    exact this
  have D1 := Lib.hid (fun wx => refNumber_any d.f wx hd.df (by have := hd.most; omega))
  have D2 := Lib.hid (fun wx => refNumber_any t.f wx hto.df (by have := hto.most; omega))
  have sf : (dStr d.f).size = d.f.length := dStr_size d.f
  have st : (dStr t.f).size = t.f.length := dStr_size t.f
  clear ht hd hto htn
  go_enter Tryd.func73, Tryd.ntmps73
  go_wp2_with fail
  obtain ⟨W2, hW2⟩ : ∃ W2, W2 = (w.alloc (.cells #[.bool false, .string (dStr d.i), .string (dStr d.f)] 23)).alloc (.cells #[.bool false, .string ⟨#[]⟩, .string ⟨#[]⟩, .string ⟨#[]⟩, .int .i64 0, .int .i64 0, .string ⟨#[]⟩, .string ⟨#[]⟩, .int .i64 0] 36) := ⟨_, rfl⟩
  obtain ⟨hb2, hz2, CA, CR, FR⟩ : Below w.heap.size w W2 ∧ w.heap.size + 2 ≤ W2.heap.size ∧ Cells3 W2 w.heap.size (.bool false) (.string (dStr d.i)) (.string (dStr d.f)) ∧ Cells9 W2 (w.heap.size + 1) (.bool false) (.string ⟨#[]⟩) (.string ⟨#[]⟩) (.string ⟨#[]⟩) (.int .i64 0) (.int .i64 0) (.string ⟨#[]⟩) (.string ⟨#[]⟩) (.int .i64 0) ∧ ∀ i, W2.frozen? ⟨w.heap.size + 1, i, none⟩ = false := by
    rw [hW2]
    obtain ⟨s1, c1, f1⟩ := one_box w (.bool false) (.string (dStr d.i)) (.string (dStr d.f)) 23
    obtain ⟨s2, c2, f2⟩ := nine_box (w.alloc (.cells #[.bool false, .string (dStr d.i), .string (dStr d.f)] 23)) (.bool false) (.string ⟨#[]⟩) (.string ⟨#[]⟩) (.string ⟨#[]⟩) (.int .i64 0) (.int .i64 0) (.string ⟨#[]⟩) (.string ⟨#[]⟩) (.int .i64 0) 36
    have hs : (w.alloc (.cells #[.bool false, .string (dStr d.i), .string (dStr d.f)] 23)).heap.size = w.heap.size + 1 := by simp
    rw [hs] at c2 f2 s2
    exact ⟨below_two w _ _, s2, c1.keep ((Below.refl _ _).alloc (Nat.le_refl _) _) (by omega), c2, f2⟩
  rw [← hW2]
  clear hW2
  (with_reducible refine (DT.out _).mono ?_)
  rintro e W3 ⟨rfl, hb3⟩
  have CA3 := CA.keep hb3 (by omega)
  have CR3 := CR.keep hb3 (by omega)
  have FR3 := frozen_keep FR hb3 (by omega)
  have hz3 : w.heap.size + 2 ≤ W3.heap.size := by have := hb3.size; omega
  have B3 := Lib.hid (hb2.trans (hb3.mono hb2.size))
  clear hb3 hb2 CA CR FR hz2
  obtain ⟨W4, hW4⟩ : ∃ W4, W4 = W3.alloc (.cells #[.bool false, .string (dStr t.i), .string (dStr t.f)] 23) := ⟨_, rfl⟩
  have ba : Below W3.heap.size W3 W4 := by rw [hW4]; exact (Below.refl _ _).alloc (Nat.le_refl _) _
  have CA4 := CA3.keep ba (by omega)
  have CR4 := Lib.hid (CR3.keep ba (by omega))
  have FR4 := Lib.hid (frozen_keep FR3 ba (by omega))
  have B4 := Lib.hid (B3.out.trans (ba.mono B3.out.size))
  obtain ⟨hz4, CN4, -⟩ : W3.heap.size + 1 ≤ W4.heap.size ∧ Cells3 W4 W3.heap.size (.bool false) (.string (dStr t.i)) (.string (dStr t.f)) ∧ True := by rw [hW4]; exact ⟨(one_box _ _ _ _ _).1, (one_box _ _ _ _ _).2.1, trivial⟩
  have HW4 := Lib.hid hW4
  clear hW4 ba CA3 CR3 FR3 B3
  have a0 := CA4.1
  have a1 := CA4.2.1
  have a2 := CA4.2.2
  have n0 := CN4.1
  have n1 := CN4.2.1
  have n2 := CN4.2.2
  go_wp2_with fail
  rw [← HW4.out]
  obtain ⟨r0, r1, r2, r3, r4, r5, r6, r7, r8⟩ := CR4.out
  have z0 := FR4.out
  go_region_held3 (fun w' => w'.cell? ⟨w.heap.size, 0, none⟩ = some (.bool false) ∧ w'.cell? ⟨w.heap.size, 1, none⟩ = some (.string (dStr d.i)) ∧ w'.cell? ⟨w.heap.size, 2, none⟩ = some (.string (dStr d.f)) ∧ w'.cell? ⟨W3.heap.size, 0, none⟩ = some (.bool false) ∧ w'.cell? ⟨W3.heap.size, 1, none⟩ = some (.string (dStr t.i)) ∧ w'.cell? ⟨W3.heap.size, 2, none⟩ = some (.string (dStr t.f)))
    (first | (with_reducible exact ⟨a0, a1, a2, n0, n1, n2⟩) | (with_reducible exact ⟨(drew_cell _ _).trans a0, (drew_cell _ _).trans a1, (drew_cell _ _).trans a2, (drew_cell _ _).trans n0, (drew_cell _ _).trans n1, (drew_cell _ _).trans n2⟩) | (with_reducible (refine ⟨(far9d _ _ _ _ _ _ _ _ _ _ _ _ _ ?_).trans a0, (far9d _ _ _ _ _ _ _ _ _ _ _ _ _ ?_).trans a1, (far9d _ _ _ _ _ _ _ _ _ _ _ _ _ ?_).trans a2, (far9d _ _ _ _ _ _ _ _ _ _ _ _ _ ?_).trans n0, (far9d _ _ _ _ _ _ _ _ _ _ _ _ _ ?_).trans n1, (far9d _ _ _ _ _ _ _ _ _ _ _ _ _ ?_).trans n2⟩ <;> omega)))
    (first
      | (go_at_call 112; (with_reducible refine (D1.out _).mono ?_); rintro e wA ⟨rfl, rfl⟩)
      | (go_at_call 112; (with_reducible refine (D2.out _).mono ?_); rintro e wB ⟨rfl, rfl⟩))
  obtain ⟨e0, e1, e2, e3, e4, e5, e6, e7, e8⟩ := res_cells9 CR4.out (.bool false) (.string (dStr t.i)) (.string (dStr t.f)) (.string (dStr d.i)) (.int .i64 d.f.length) (.int .i64 t.f.length) (.string (dStr (intg d.f))) (.string (dStr (intg t.f))) (.int .i64 k)
  clear r0 r1 r2 r3 r4 r5 r6 r7 r8
  go_wp2
  exact bodyPost_ret (v := .agg #[.bool false, .string (dStr t.i), .string (dStr t.f), .string (dStr d.i), .int .i64 d.f.length, .int .i64 t.f.length, .string (dStr (intg d.f)), .string (dStr (intg t.f)), .int .i64 k]) (by simp [results, Tryd.results73, go_sem, e0, e1, e2, e3, e4, e5, e6, e7, e8]) rfl ⟨rfl, drew1 (res_below9 B4.out (Nat.le_succ _) _ _ _ _ _ _ _ _ _)⟩
end
section
open Go.RowKit
attribute [local go_sem ↓] Go.wp_at_zero Go.wp_at_succ

set_option maxHeartbeats 1000000 in
set_option maxRecDepth 100000 in
theorem refTrim_err (dn : Bool) (di df : ByteArray) (e : Int) (w : World) (HC : ∀ wx : World, Calls Tryd.prog 42 #[(.agg #[.bool dn, .string di, .string df])] wx fun r w' => r = .returned (.int .i64 e) ∧ Below wx.heap.size wx w') (he : e ≠ 0) :
    Calls Tryd.prog 65 #[(.agg #[.bool dn, .string di, .string df])] w fun r w' => r = .returned (.tuple #[.agg #[.bool false, .string ⟨#[]⟩, .string ⟨#[]⟩], .int .i64 e]) ∧ Below w.heap.size w w' := by
  have DC := Lib.hid HC
  have qe : (e != 0) = true := by simpa using he
  clear HC he
  go_enter Tryd.func65, Tryd.ntmps65
  go_wp2_with fail
  obtain ⟨W2, hW2⟩ : ∃ W2, W2 = (w.alloc (.cells #[.bool dn, .string di, .string df] 23)).alloc (.cells #[.bool false, .string ⟨#[]⟩, .string ⟨#[]⟩] 23) := ⟨_, rfl⟩
  obtain ⟨hb2, hz2, CA, CR, FR⟩ : Below w.heap.size w W2 ∧ w.heap.size + 2 ≤ W2.heap.size ∧ Cells3 W2 w.heap.size (.bool dn) (.string di) (.string df) ∧ Cells3 W2 (w.heap.size + 1) (.bool false) (.string ⟨#[]⟩) (.string ⟨#[]⟩) ∧ ∀ i, W2.frozen? ⟨w.heap.size + 1, i, none⟩ = false := by rw [hW2]; exact ⟨below_two w _ _, two_boxes w _ _ _ _ _ _ _⟩
  rw [← hW2]
  clear hW2
  (with_reducible refine (DC.out _).mono ?_)
  rintro e3 W3 ⟨rfl, hb3⟩
  have CR3 := CR.keep hb3 (by omega)
  have FR3 := frozen_keep FR hb3 (by omega)
  have hz3 : w.heap.size + 2 ≤ W3.heap.size := by have := hb3.size; omega
  have B3 := hb2.trans (hb3.mono hb2.size)
  clear hb3 hb2 CA CR FR hz2
  obtain ⟨r0, r1, r2⟩ := CR3
  have z0 := FR3
  obtain ⟨e0, e1, e2⟩ := res_cells r0 r1 r2 (.bool false) (.string ⟨#[]⟩) (.string ⟨#[]⟩)
  have HBl := Lib.hid (res_below B3 (Nat.le_succ _) (.bool false) (.string ⟨#[]⟩) (.string ⟨#[]⟩))
  clear B3
  go_wp2
  exact bodyPost_ret (v := .tuple #[.agg #[.bool false, .string ⟨#[]⟩, .string ⟨#[]⟩], .int .i64 e]) (by simp [results, Tryd.results65, go_sem, e0, e1, e2]) rfl ⟨rfl, HBl.out⟩

set_option maxHeartbeats 2000000 in
set_option maxRecDepth 100000 in
theorem refPad_err (dn : Bool) (di df : ByteArray) (k c e : Int) (w : World) (HC : ∀ wx : World, Calls Tryd.prog 42 #[(.agg #[.bool dn, .string di, .string df])] wx fun r w' => r = .returned (.int .i64 c) ∧ Below wx.heap.size wx w') (he : e ≠ 0) (hF : firstE c (ifE (decide (k < 0) || decide (40 < k)) 1) = e) :
    Calls Tryd.prog 97 #[(.agg #[.bool dn, .string di, .string df]), .int .i64 k] w fun r w' => r = .returned (.tuple #[.agg #[.bool false, .string ⟨#[]⟩, .string ⟨#[]⟩], .int .i64 e]) ∧ Below w.heap.size w w' := by
  have DC := Lib.hid HC
  have qe : (e != 0) = true := by simpa using he
  clear HC he
  have DF0 : ∀ (x : Int) (g : Nat) (wx : World), firstE c x = e → g = wx.heap.size → Calls Tryd.prog 70 #[.slice (some ⟨g, 0, none⟩) 2 2] (wx.alloc (.cells #[.int .i64 c, .int .i64 x] 24)) fun r w' => r = .returned (.int .i64 e) ∧ Below wx.heap.size wx w' := fun x g wx hx hg => by
    subst hg
    refine (refFirst_two c x wx.heap.size _ _ _ (heap_alloc_new wx _)).mono ?_
    rintro r w' ⟨rfl, rfl⟩
    exact ⟨by rw [hx], (Below.refl _ _).alloc (Nat.le_refl _) _⟩
  rcases (by omega : k < 0 ∨ (¬ k < 0 ∧ 40 < k) ∨ (¬ k < 0 ∧ ¬ 40 < k)) with h | ⟨h, h'⟩ | ⟨h, h'⟩
  · have q0 : decide (k < 0) = true := decide_eq_true h
    have hx : firstE c 1 = e := by rw [← hF, q0]; rfl
    have DI : Hid (∀ wx : World, Calls Tryd.prog 71 #[.bool true, .int .i64 1] wx fun r w' => r = .returned (.int .i64 1) ∧ wx = w') := fun wx => refIf_any true 1 wx
    have DFi := Lib.hid (fun g wx => DF0 1 g wx hx)
    clear DF0 hF hx h
    go_enter Tryd.func97, Tryd.ntmps97
    go_wp2_with fail
    obtain ⟨W2, hW2⟩ : ∃ W2, W2 = (w.alloc (.cells #[.bool dn, .string di, .string df] 23)).alloc (.cells #[.bool false, .string ⟨#[]⟩, .string ⟨#[]⟩] 23) := ⟨_, rfl⟩
    obtain ⟨hb2, hz2, CA, CR, FR⟩ : Below w.heap.size w W2 ∧ w.heap.size + 2 ≤ W2.heap.size ∧ Cells3 W2 w.heap.size (.bool dn) (.string di) (.string df) ∧ Cells3 W2 (w.heap.size + 1) (.bool false) (.string ⟨#[]⟩) (.string ⟨#[]⟩) ∧ ∀ i, W2.frozen? ⟨w.heap.size + 1, i, none⟩ = false := by rw [hW2]; exact ⟨below_two w _ _, two_boxes w _ _ _ _ _ _ _⟩
    rw [← hW2]
    clear hW2
    (with_reducible refine (DC.out _).mono ?_)
    rintro e3 W3 ⟨rfl, hb3⟩
    have CR3 := CR.keep hb3 (by omega)
    have FR3 := frozen_keep FR hb3 (by omega)
    have hz3 : w.heap.size + 2 ≤ W3.heap.size := by have := hb3.size; omega
    have B3 := hb2.trans (hb3.mono hb2.size)
    clear hb3 hb2 CA CR FR hz2
    have CR3 := Lib.hid CR3
    have FR3 := Lib.hid FR3
    have B3 := Lib.hid B3
    go_wp2_with fail
    (with_reducible refine (DI.out _).mono ?_)
    rintro e4 W4 ⟨rfl, rfl⟩
    go_wp2_with fail
    (with_reducible refine (DFi.out _ _ ?_).mono ?_)
    · rfl
    rintro e5 W5 ⟨rfl, hb5⟩
    have CR3 := CR3.out.keep hb5 (by omega)
    have FR3 := frozen_keep FR3.out hb5 (by omega)
    have hz3 : w.heap.size + 2 ≤ W5.heap.size := by have := hb5.size; omega
    have B3 := B3.out.trans (hb5.mono B3.out.size)
    clear hb5
    obtain ⟨r0, r1, r2⟩ := CR3
    have z0 := FR3
    obtain ⟨e0, e1, e2⟩ := res_cells r0 r1 r2 (.bool false) (.string ⟨#[]⟩) (.string ⟨#[]⟩)
    have HBl := Lib.hid (res_below B3 (Nat.le_succ _) (.bool false) (.string ⟨#[]⟩) (.string ⟨#[]⟩))
    clear B3
    go_wp2
    exact bodyPost_ret (v := .tuple #[.agg #[.bool false, .string ⟨#[]⟩, .string ⟨#[]⟩], .int .i64 e]) (by simp [results, Tryd.results97, go_sem, e0, e1, e2]) rfl ⟨rfl, HBl.out⟩
  · have q0 : decide (k < 0) = false := decide_eq_false h
    have q1 : decide (40 < k) = true := decide_eq_true h'
    have hx : firstE c 1 = e := by rw [← hF, q0, q1]; rfl
    have DI : Hid (∀ wx : World, Calls Tryd.prog 71 #[.bool true, .int .i64 1] wx fun r w' => r = .returned (.int .i64 1) ∧ wx = w') := fun wx => refIf_any true 1 wx
    have DFi := Lib.hid (fun g wx => DF0 1 g wx hx)
    clear DF0 hF hx h h'
    go_enter Tryd.func97, Tryd.ntmps97
    go_wp2_with fail
    obtain ⟨W2, hW2⟩ : ∃ W2, W2 = (w.alloc (.cells #[.bool dn, .string di, .string df] 23)).alloc (.cells #[.bool false, .string ⟨#[]⟩, .string ⟨#[]⟩] 23) := ⟨_, rfl⟩
    obtain ⟨hb2, hz2, CA, CR, FR⟩ : Below w.heap.size w W2 ∧ w.heap.size + 2 ≤ W2.heap.size ∧ Cells3 W2 w.heap.size (.bool dn) (.string di) (.string df) ∧ Cells3 W2 (w.heap.size + 1) (.bool false) (.string ⟨#[]⟩) (.string ⟨#[]⟩) ∧ ∀ i, W2.frozen? ⟨w.heap.size + 1, i, none⟩ = false := by rw [hW2]; exact ⟨below_two w _ _, two_boxes w _ _ _ _ _ _ _⟩
    rw [← hW2]
    clear hW2
    (with_reducible refine (DC.out _).mono ?_)
    rintro e3 W3 ⟨rfl, hb3⟩
    have CR3 := CR.keep hb3 (by omega)
    have FR3 := frozen_keep FR hb3 (by omega)
    have hz3 : w.heap.size + 2 ≤ W3.heap.size := by have := hb3.size; omega
    have B3 := hb2.trans (hb3.mono hb2.size)
    clear hb3 hb2 CA CR FR hz2
    have CR3 := Lib.hid CR3
    have FR3 := Lib.hid FR3
    have B3 := Lib.hid B3
    go_wp2_with fail
    (with_reducible refine (DI.out _).mono ?_)
    rintro e4 W4 ⟨rfl, rfl⟩
    go_wp2_with fail
    (with_reducible refine (DFi.out _ _ ?_).mono ?_)
    · rfl
    rintro e5 W5 ⟨rfl, hb5⟩
    have CR3 := CR3.out.keep hb5 (by omega)
    have FR3 := frozen_keep FR3.out hb5 (by omega)
    have hz3 : w.heap.size + 2 ≤ W5.heap.size := by have := hb5.size; omega
    have B3 := B3.out.trans (hb5.mono B3.out.size)
    clear hb5
    obtain ⟨r0, r1, r2⟩ := CR3
    have z0 := FR3
    obtain ⟨e0, e1, e2⟩ := res_cells r0 r1 r2 (.bool false) (.string ⟨#[]⟩) (.string ⟨#[]⟩)
    have HBl := Lib.hid (res_below B3 (Nat.le_succ _) (.bool false) (.string ⟨#[]⟩) (.string ⟨#[]⟩))
    clear B3
    go_wp2
    exact bodyPost_ret (v := .tuple #[.agg #[.bool false, .string ⟨#[]⟩, .string ⟨#[]⟩], .int .i64 e]) (by simp [results, Tryd.results97, go_sem, e0, e1, e2]) rfl ⟨rfl, HBl.out⟩
  · have q0 : decide (k < 0) = false := decide_eq_false h
    have q1 : decide (40 < k) = false := decide_eq_false h'
    have hx : firstE c 0 = e := by rw [← hF, q0, q1]; rfl
    have DI : Hid (∀ wx : World, Calls Tryd.prog 71 #[.bool false, .int .i64 1] wx fun r w' => r = .returned (.int .i64 0) ∧ wx = w') := fun wx => refIf_any false 1 wx
    have DFi := Lib.hid (fun g wx => DF0 0 g wx hx)
    clear DF0 hF hx h h'
    go_enter Tryd.func97, Tryd.ntmps97
    go_wp2_with fail
    obtain ⟨W2, hW2⟩ : ∃ W2, W2 = (w.alloc (.cells #[.bool dn, .string di, .string df] 23)).alloc (.cells #[.bool false, .string ⟨#[]⟩, .string ⟨#[]⟩] 23) := ⟨_, rfl⟩
    obtain ⟨hb2, hz2, CA, CR, FR⟩ : Below w.heap.size w W2 ∧ w.heap.size + 2 ≤ W2.heap.size ∧ Cells3 W2 w.heap.size (.bool dn) (.string di) (.string df) ∧ Cells3 W2 (w.heap.size + 1) (.bool false) (.string ⟨#[]⟩) (.string ⟨#[]⟩) ∧ ∀ i, W2.frozen? ⟨w.heap.size + 1, i, none⟩ = false := by rw [hW2]; exact ⟨below_two w _ _, two_boxes w _ _ _ _ _ _ _⟩
    rw [← hW2]
    clear hW2
    (with_reducible refine (DC.out _).mono ?_)
    rintro e3 W3 ⟨rfl, hb3⟩
    have CR3 := CR.keep hb3 (by omega)
    have FR3 := frozen_keep FR hb3 (by omega)
    have hz3 : w.heap.size + 2 ≤ W3.heap.size := by have := hb3.size; omega
    have B3 := hb2.trans (hb3.mono hb2.size)
    clear hb3 hb2 CA CR FR hz2
    have CR3 := Lib.hid CR3
    have FR3 := Lib.hid FR3
    have B3 := Lib.hid B3
    go_wp2_with fail
    (with_reducible refine (DI.out _).mono ?_)
    rintro e4 W4 ⟨rfl, rfl⟩
    go_wp2_with fail
    (with_reducible refine (DFi.out _ _ ?_).mono ?_)
    · rfl
    rintro e5 W5 ⟨rfl, hb5⟩
    have CR3 := CR3.out.keep hb5 (by omega)
    have FR3 := frozen_keep FR3.out hb5 (by omega)
    have hz3 : w.heap.size + 2 ≤ W5.heap.size := by have := hb5.size; omega
    have B3 := B3.out.trans (hb5.mono B3.out.size)
    clear hb5
    obtain ⟨r0, r1, r2⟩ := CR3
    have z0 := FR3
    obtain ⟨e0, e1, e2⟩ := res_cells r0 r1 r2 (.bool false) (.string ⟨#[]⟩) (.string ⟨#[]⟩)
    have HBl := Lib.hid (res_below B3 (Nat.le_succ _) (.bool false) (.string ⟨#[]⟩) (.string ⟨#[]⟩))
    clear B3
    go_wp2
    exact bodyPost_ret (v := .tuple #[.agg #[.bool false, .string ⟨#[]⟩, .string ⟨#[]⟩], .int .i64 e]) (by simp [results, Tryd.results97, go_sem, e0, e1, e2]) rfl ⟨rfl, HBl.out⟩

set_option maxHeartbeats 2000000 in
set_option maxRecDepth 100000 in
theorem refShift_err (dn : Bool) (di df : ByteArray) (k c e : Int) (w : World) (HC : ∀ wx : World, Calls Tryd.prog 42 #[(.agg #[.bool dn, .string di, .string df])] wx fun r w' => r = .returned (.int .i64 c) ∧ Below wx.heap.size wx w') (he : e ≠ 0) (hF : firstE c (ifE (decide (k < -40) || decide (40 < k)) 1) = e) :
    Calls Tryd.prog 72 #[(.agg #[.bool dn, .string di, .string df]), .int .i64 k] w fun r w' => r = .returned (.tuple #[.agg #[.bool false, .string ⟨#[]⟩, .string ⟨#[]⟩], .int .i64 e]) ∧ Below w.heap.size w w' := by
  have DC := Lib.hid HC
  have qe : (e != 0) = true := by simpa using he
  clear HC he
  have DF0 : ∀ (x : Int) (g : Nat) (wx : World), firstE c x = e → g = wx.heap.size → Calls Tryd.prog 70 #[.slice (some ⟨g, 0, none⟩) 2 2] (wx.alloc (.cells #[.int .i64 c, .int .i64 x] 24)) fun r w' => r = .returned (.int .i64 e) ∧ Below wx.heap.size wx w' := fun x g wx hx hg => by
    subst hg
    refine (refFirst_two c x wx.heap.size _ _ _ (heap_alloc_new wx _)).mono ?_
    rintro r w' ⟨rfl, rfl⟩
    exact ⟨by rw [hx], (Below.refl _ _).alloc (Nat.le_refl _) _⟩
  rcases (by omega : k < -40 ∨ (¬ k < -40 ∧ 40 < k) ∨ (¬ k < -40 ∧ ¬ 40 < k)) with h | ⟨h, h'⟩ | ⟨h, h'⟩
  · have q0 : decide (k < -40) = true := decide_eq_true h
    have hx : firstE c 1 = e := by rw [← hF, q0]; rfl
    have DI : Hid (∀ wx : World, Calls Tryd.prog 71 #[.bool true, .int .i64 1] wx fun r w' => r = .returned (.int .i64 1) ∧ wx = w') := fun wx => refIf_any true 1 wx
    have DFi := Lib.hid (fun g wx => DF0 1 g wx hx)
    clear DF0 hF hx h
    go_enter Tryd.func72, Tryd.ntmps72
    go_wp2_with fail
    obtain ⟨W2, hW2⟩ : ∃ W2, W2 = (w.alloc (.cells #[.bool dn, .string di, .string df] 23)).alloc (.cells #[.bool false, .string ⟨#[]⟩, .string ⟨#[]⟩] 23) := ⟨_, rfl⟩
    obtain ⟨hb2, hz2, CA, CR, FR⟩ : Below w.heap.size w W2 ∧ w.heap.size + 2 ≤ W2.heap.size ∧ Cells3 W2 w.heap.size (.bool dn) (.string di) (.string df) ∧ Cells3 W2 (w.heap.size + 1) (.bool false) (.string ⟨#[]⟩) (.string ⟨#[]⟩) ∧ ∀ i, W2.frozen? ⟨w.heap.size + 1, i, none⟩ = false := by rw [hW2]; exact ⟨below_two w _ _, two_boxes w _ _ _ _ _ _ _⟩
    rw [← hW2]
    clear hW2
    (with_reducible refine (DC.out _).mono ?_)
    rintro e3 W3 ⟨rfl, hb3⟩
    have CR3 := CR.keep hb3 (by omega)
    have FR3 := frozen_keep FR hb3 (by omega)
    have hz3 : w.heap.size + 2 ≤ W3.heap.size := by have := hb3.size; omega
    have B3 := hb2.trans (hb3.mono hb2.size)
    clear hb3 hb2 CA CR FR hz2
    have CR3 := Lib.hid CR3
    have FR3 := Lib.hid FR3
    have B3 := Lib.hid B3
    go_wp2_with fail
    (with_reducible refine (DI.out _).mono ?_)
    rintro e4 W4 ⟨rfl, rfl⟩
    go_wp2_with fail
    (with_reducible refine (DFi.out _ _ ?_).mono ?_)
    · rfl
    rintro e5 W5 ⟨rfl, hb5⟩
    have CR3 := CR3.out.keep hb5 (by omega)
    have FR3 := frozen_keep FR3.out hb5 (by omega)
    have hz3 : w.heap.size + 2 ≤ W5.heap.size := by have := hb5.size; omega
    have B3 := B3.out.trans (hb5.mono B3.out.size)
    clear hb5
    obtain ⟨r0, r1, r2⟩ := CR3
    have z0 := FR3
    obtain ⟨e0, e1, e2⟩ := res_cells r0 r1 r2 (.bool false) (.string ⟨#[]⟩) (.string ⟨#[]⟩)
    have HBl := Lib.hid (res_below B3 (Nat.le_succ _) (.bool false) (.string ⟨#[]⟩) (.string ⟨#[]⟩))
    clear B3
    go_wp2
    exact bodyPost_ret (v := .tuple #[.agg #[.bool false, .string ⟨#[]⟩, .string ⟨#[]⟩], .int .i64 e]) (by simp [results, Tryd.results72, go_sem, e0, e1, e2]) rfl ⟨rfl, HBl.out⟩
  · have q0 : decide (k < -40) = false := decide_eq_false h
    have q1 : decide (40 < k) = true := decide_eq_true h'
    have hx : firstE c 1 = e := by rw [← hF, q0, q1]; rfl
    have DI : Hid (∀ wx : World, Calls Tryd.prog 71 #[.bool true, .int .i64 1] wx fun r w' => r = .returned (.int .i64 1) ∧ wx = w') := fun wx => refIf_any true 1 wx
    have DFi := Lib.hid (fun g wx => DF0 1 g wx hx)
    clear DF0 hF hx h h'
    go_enter Tryd.func72, Tryd.ntmps72
    go_wp2_with fail
    obtain ⟨W2, hW2⟩ : ∃ W2, W2 = (w.alloc (.cells #[.bool dn, .string di, .string df] 23)).alloc (.cells #[.bool false, .string ⟨#[]⟩, .string ⟨#[]⟩] 23) := ⟨_, rfl⟩
    obtain ⟨hb2, hz2, CA, CR, FR⟩ : Below w.heap.size w W2 ∧ w.heap.size + 2 ≤ W2.heap.size ∧ Cells3 W2 w.heap.size (.bool dn) (.string di) (.string df) ∧ Cells3 W2 (w.heap.size + 1) (.bool false) (.string ⟨#[]⟩) (.string ⟨#[]⟩) ∧ ∀ i, W2.frozen? ⟨w.heap.size + 1, i, none⟩ = false := by rw [hW2]; exact ⟨below_two w _ _, two_boxes w _ _ _ _ _ _ _⟩
    rw [← hW2]
    clear hW2
    (with_reducible refine (DC.out _).mono ?_)
    rintro e3 W3 ⟨rfl, hb3⟩
    have CR3 := CR.keep hb3 (by omega)
    have FR3 := frozen_keep FR hb3 (by omega)
    have hz3 : w.heap.size + 2 ≤ W3.heap.size := by have := hb3.size; omega
    have B3 := hb2.trans (hb3.mono hb2.size)
    clear hb3 hb2 CA CR FR hz2
    have CR3 := Lib.hid CR3
    have FR3 := Lib.hid FR3
    have B3 := Lib.hid B3
    go_wp2_with fail
    (with_reducible refine (DI.out _).mono ?_)
    rintro e4 W4 ⟨rfl, rfl⟩
    go_wp2_with fail
    (with_reducible refine (DFi.out _ _ ?_).mono ?_)
    · rfl
    rintro e5 W5 ⟨rfl, hb5⟩
    have CR3 := CR3.out.keep hb5 (by omega)
    have FR3 := frozen_keep FR3.out hb5 (by omega)
    have hz3 : w.heap.size + 2 ≤ W5.heap.size := by have := hb5.size; omega
    have B3 := B3.out.trans (hb5.mono B3.out.size)
    clear hb5
    obtain ⟨r0, r1, r2⟩ := CR3
    have z0 := FR3
    obtain ⟨e0, e1, e2⟩ := res_cells r0 r1 r2 (.bool false) (.string ⟨#[]⟩) (.string ⟨#[]⟩)
    have HBl := Lib.hid (res_below B3 (Nat.le_succ _) (.bool false) (.string ⟨#[]⟩) (.string ⟨#[]⟩))
    clear B3
    go_wp2
    exact bodyPost_ret (v := .tuple #[.agg #[.bool false, .string ⟨#[]⟩, .string ⟨#[]⟩], .int .i64 e]) (by simp [results, Tryd.results72, go_sem, e0, e1, e2]) rfl ⟨rfl, HBl.out⟩
  · have q0 : decide (k < -40) = false := decide_eq_false h
    have q1 : decide (40 < k) = false := decide_eq_false h'
    have hx : firstE c 0 = e := by rw [← hF, q0, q1]; rfl
    have DI : Hid (∀ wx : World, Calls Tryd.prog 71 #[.bool false, .int .i64 1] wx fun r w' => r = .returned (.int .i64 0) ∧ wx = w') := fun wx => refIf_any false 1 wx
    have DFi := Lib.hid (fun g wx => DF0 0 g wx hx)
    clear DF0 hF hx h h'
    go_enter Tryd.func72, Tryd.ntmps72
    go_wp2_with fail
    obtain ⟨W2, hW2⟩ : ∃ W2, W2 = (w.alloc (.cells #[.bool dn, .string di, .string df] 23)).alloc (.cells #[.bool false, .string ⟨#[]⟩, .string ⟨#[]⟩] 23) := ⟨_, rfl⟩
    obtain ⟨hb2, hz2, CA, CR, FR⟩ : Below w.heap.size w W2 ∧ w.heap.size + 2 ≤ W2.heap.size ∧ Cells3 W2 w.heap.size (.bool dn) (.string di) (.string df) ∧ Cells3 W2 (w.heap.size + 1) (.bool false) (.string ⟨#[]⟩) (.string ⟨#[]⟩) ∧ ∀ i, W2.frozen? ⟨w.heap.size + 1, i, none⟩ = false := by rw [hW2]; exact ⟨below_two w _ _, two_boxes w _ _ _ _ _ _ _⟩
    rw [← hW2]
    clear hW2
    (with_reducible refine (DC.out _).mono ?_)
    rintro e3 W3 ⟨rfl, hb3⟩
    have CR3 := CR.keep hb3 (by omega)
    have FR3 := frozen_keep FR hb3 (by omega)
    have hz3 : w.heap.size + 2 ≤ W3.heap.size := by have := hb3.size; omega
    have B3 := hb2.trans (hb3.mono hb2.size)
    clear hb3 hb2 CA CR FR hz2
    have CR3 := Lib.hid CR3
    have FR3 := Lib.hid FR3
    have B3 := Lib.hid B3
    go_wp2_with fail
    (with_reducible refine (DI.out _).mono ?_)
    rintro e4 W4 ⟨rfl, rfl⟩
    go_wp2_with fail
    (with_reducible refine (DFi.out _ _ ?_).mono ?_)
    · rfl
    rintro e5 W5 ⟨rfl, hb5⟩
    have CR3 := CR3.out.keep hb5 (by omega)
    have FR3 := frozen_keep FR3.out hb5 (by omega)
    have hz3 : w.heap.size + 2 ≤ W5.heap.size := by have := hb5.size; omega
    have B3 := B3.out.trans (hb5.mono B3.out.size)
    clear hb5
    obtain ⟨r0, r1, r2⟩ := CR3
    have z0 := FR3
    obtain ⟨e0, e1, e2⟩ := res_cells r0 r1 r2 (.bool false) (.string ⟨#[]⟩) (.string ⟨#[]⟩)
    have HBl := Lib.hid (res_below B3 (Nat.le_succ _) (.bool false) (.string ⟨#[]⟩) (.string ⟨#[]⟩))
    clear B3
    go_wp2
    exact bodyPost_ret (v := .tuple #[.agg #[.bool false, .string ⟨#[]⟩, .string ⟨#[]⟩], .int .i64 e]) (by simp [results, Tryd.results72, go_sem, e0, e1, e2]) rfl ⟨rfl, HBl.out⟩
end
section
open Go.RowKit
attribute [local go_sem ↓] Go.wp_at_zero Go.wp_at_succ

set_option maxHeartbeats 1000000 in
set_option maxRecDepth 100000 in
theorem refNum_any (d : Dc) (w : World) (hd : d.Ok) :
    Calls Tryd.prog 110 #[.agg #[.bool d.neg, .string (dStr d.i), .string (dStr d.f)]] w fun e w' => e = .returned (.string (dStr (digs d.num))) ∧ Below w.heap.size w w' := by
  have hm := hd.most
  have si : (dStr d.i).size = d.i.length := dStr_size d.i
  have sf : (dStr d.f).size = d.f.length := dStr_size d.f
  have DL : Hid (∀ wx : World, Calls Tryd.prog 147 #[.string (dStr d.i ++ dStr d.f)] wx fun r w' => r = .returned (.string (dStr (digs d.num))) ∧ wx = w') := fun wx => by
    rw [dStr_append]
    exact refLead_any (d.i ++ d.f) wx (.append hd.di hd.df) (by rw [List.length_append]; omega)
  have C0 := Lib.hid (one_box w (.bool d.neg) (.string (dStr d.i)) (.string (dStr d.f)) 23).2.1
  clear hd
  go_enter Tryd.func110, Tryd.ntmps110
  go_wp2_with fail
  (with_reducible refine (DL.out _).mono ?_)
  rintro e W3 ⟨rfl, rfl⟩
  go_wp2
  go_ret
  exact ⟨rfl, (Below.refl _ w).alloc (Nat.le_refl _) _⟩
end
section
open Go.RowKit
attribute [local go_sem ↓] Go.wp_at_zero Go.wp_at_succ

set_option maxHeartbeats 4000000 in
set_option maxRecDepth 100000 in
theorem refShift_le (d : Dc) (k : Int) (w : World) (o : Option Dc) (ho : shD d k = o) (hd : d.Ok) (h1 : -40 ≤ k) (h2 : k ≤ 40) (hc : ¬ (d.f.length : Int) < k) :
    Calls Tryd.prog 72 #[(.agg #[.bool d.neg, .string (dStr d.i), .string (dStr d.f)]), .int .i64 k] w fun e w' => e = .returned (.tuple #[.agg #[.bool (oN o), .string (oI o), .string (oF o)], .int .i64 (oE o)]) ∧ Below w.heap.size w w' := by
  have DC := Lib.hid (fun wx => refCheck_ok d wx hd)
  have hm := hd.most
  have si : (dStr d.i).size = d.i.length := dStr_size d.i
  have sf : (dStr d.f).size = d.f.length := dStr_size d.f
  have DI : Hid (∀ wx : World, Calls Tryd.prog 71 #[.bool false, .int .i64 1] wx fun r w' => r = .returned (.int .i64 0) ∧ wx = w') := fun wx => refIf_any false 1 wx
  have DFi : Hid (∀ (g : Nat) (wx : World), g = wx.heap.size → Calls Tryd.prog 70 #[.slice (some ⟨g, 0, none⟩) 2 2] (wx.alloc (.cells #[.int .i64 0, .int .i64 0] 24)) fun r w' => r = .returned (.int .i64 0) ∧ Below wx.heap.size wx w') := fun g wx hg => by
    subst hg
    refine (refFirst_two 0 0 wx.heap.size _ _ _ (heap_alloc_new wx _)).mono ?_
    rintro e w' ⟨rfl, rfl⟩
    exact ⟨rfl, (Below.refl _ _).alloc (Nat.le_refl _) _⟩
  obtain ⟨t, ht⟩ : ∃ t : Nat, (t : Int) = (d.f.length : Int) - k := ⟨((d.f.length : Int) - k).toNat, by omega⟩
  have ht2 : ((d.f.length : Int) - k).toNat = t := by omega
  have hn40 : (digs d.num).length ≤ 40 := (digs_le d.num 40 (by omega)).2 (num_lt hd)
  obtain ⟨S1, hS1⟩ : ∃ S1, S1 = dStr (digs d.num) := ⟨_, rfl⟩
  have DN : Hid (∀ wx : World, Calls Tryd.prog 110 #[(.agg #[.bool d.neg, .string (dStr d.i), .string (dStr d.f)])] wx fun e w' => e = .returned (.string S1) ∧ Below wx.heap.size wx w') := fun wx => by rw [hS1]; exact refNum_any d wx hd
  have DM : Hid (∀ (wx : World) {sI : Int}, sI = (d.f.length : Int) - k → Calls Tryd.prog 104 #[.bool d.neg, .string S1, .int .i64 sI] wx fun e w' => e = .returned (.tuple #[.agg #[.bool (oN o), .string (oI o), .string (oF o)], .int .i64 (oE o)]) ∧ Below wx.heap.size wx w') := fun wx sI h => by
    rw [h, ← ht, hS1]
    refine refMake_any d.neg _ t wx o ?_ (digs_digs _) (by omega) (by omega)
    rw [dVal_digs, ← ho]
    unfold shD mkN Dc.z
    rw [if_neg hc, ht2]
  have wz : IntKind.i64.wrap ((d.f.length : Int) - k) = (d.f.length : Int) - k := IntWalk.i64_in _ (by omega)
  clear hS1 hn40 ht ht2
  have q0 : decide (k < -40) = false := decide_eq_false (by omega)
  have q1 : decide (40 < k) = false := decide_eq_false (by omega)
  have qc : decide ((d.f.length : Int) < k) = false := decide_eq_false hc
  clear hd ho
  go_enter Tryd.func72, Tryd.ntmps72
  go_wp2_with fail
  obtain ⟨W2, hW2⟩ : ∃ W2, W2 = (w.alloc (.cells #[.bool d.neg, .string (dStr d.i), .string (dStr d.f)] 23)).alloc (.cells #[.bool false, .string ⟨#[]⟩, .string ⟨#[]⟩] 23) := ⟨_, rfl⟩
  obtain ⟨hb2, hz2, CA, CR, FR⟩ : Below w.heap.size w W2 ∧ w.heap.size + 2 ≤ W2.heap.size ∧ Cells3 W2 w.heap.size (.bool d.neg) (.string (dStr d.i)) (.string (dStr d.f)) ∧ Cells3 W2 (w.heap.size + 1) (.bool false) (.string ⟨#[]⟩) (.string ⟨#[]⟩) ∧ ∀ i, W2.frozen? ⟨w.heap.size + 1, i, none⟩ = false := by rw [hW2]; exact ⟨below_two w _ _, two_boxes w _ _ _ _ _ _ _⟩
  rw [← hW2]
  clear hW2
  (with_reducible refine (DC.out _).mono ?_)
  rintro e W3 ⟨rfl, hb3⟩
  have CA3 := Lib.hid (CA.keep hb3 (by omega))
  have CR3 := Lib.hid (CR.keep hb3 (by omega))
  have FR3 := Lib.hid (frozen_keep FR hb3 (by omega))
  have hz3 : w.heap.size + 2 ≤ W3.heap.size := by have := hb3.size; omega
  have B3 := Lib.hid (hb2.trans (hb3.mono hb2.size))
  clear hb3 hb2 CA CR FR hz2
  go_wp2_with fail
  (with_reducible refine (DI.out _).mono ?_)
  rintro e W4 ⟨rfl, rfl⟩
  go_wp2_with fail
  (with_reducible refine (DFi.out _ _ ?_).mono ?_)
  · rfl
  rintro e W5 ⟨rfl, hb5⟩
  obtain ⟨a0, a1, a2⟩ := CA3.out.keep hb5 (by omega)
  have HA := Lib.hid (show Cells3 W5 w.heap.size _ _ _ from ⟨a0, a1, a2⟩)
  have CR5 := Lib.hid (CR3.out.keep hb5 (by omega))
  have FR5 := Lib.hid (frozen_keep FR3.out hb5 (by omega))
  have hz5 : w.heap.size + 2 ≤ W5.heap.size := by have := hb5.size; omega
  have B5 := Lib.hid (B3.out.trans (hb5.mono B3.out.size))
  clear hb5 CA3 CR3 FR3 hz3 B3
  go_wp2_with fail
  go_region_held3 (fun w' => w'.cell? ⟨w.heap.size, 0, none⟩ = some (.bool d.neg) ∧ w'.cell? ⟨w.heap.size, 1, none⟩ = some (.string (dStr d.i)) ∧ w'.cell? ⟨w.heap.size, 2, none⟩ = some (.string (dStr d.f)))
    (first
      | exact ⟨a0, a1, a2⟩
      | (have t := HA.out.keep (undrew hbN) (by omega); exact ⟨t.1, t.2.1, t.2.2⟩)
      | (have t := HA.out.keep hb4 (by omega); exact ⟨t.1, t.2.1, t.2.2⟩)
      | (have t := HA.out.keep hb4 (by omega); exact ⟨(far3 _ _ _ _ _ _ _ (by omega)).trans t.1, (far3 _ _ _ _ _ _ _ (by omega)).trans t.2.1, (far3 _ _ _ _ _ _ _ (by omega)).trans t.2.2⟩)
      | go_keep)
    (first
      | (go_at_call 110; (with_reducible refine (DN.out _).mono ?_); rintro e wN ⟨rfl, hbN⟩)
      | (go_at_call 104; (with_reducible refine (DM.out _ ?_).mono ?_); (focus omega); rintro e wB ⟨rfl, hbM⟩
         have hb4 : Below W5.heap.size W5 wB := by exact (undrew hbN).trans (hbM.mono (undrew hbN).size)
         obtain ⟨r0, r1, r2⟩ := CR5.out.keep hb4 (by omega)
         have z0 := frozen_keep FR5.out hb4 (by omega)))
  obtain ⟨e0, e1, e2⟩ := res_cells r0 r1 r2 (.bool (oN o)) (.string (oI o)) (.string (oF o))
  go_wp2
  exact bodyPost_ret (v := .tuple #[.agg #[.bool (oN o), .string (oI o), .string (oF o)], .int .i64 (oE o)]) (by simp [results, Tryd.results72, go_sem, e0, e1, e2]) rfl ⟨rfl, res_below (B5.out.trans (hb4.mono B5.out.size)) (by omega) _ _ _⟩
end
section
open Go.RowKit
attribute [local go_sem ↓] Go.wp_at_zero Go.wp_at_succ

set_option maxHeartbeats 4000000 in
set_option maxRecDepth 100000 in
theorem refShift_gt (d : Dc) (k : Int) (w : World) (o : Option Dc) (ho : shD d k = o) (hd : d.Ok) (h1 : -40 ≤ k) (h2 : k ≤ 40) (hc : (d.f.length : Int) < k) :
    Calls Tryd.prog 72 #[(.agg #[.bool d.neg, .string (dStr d.i), .string (dStr d.f)]), .int .i64 k] w fun e w' => e = .returned (.tuple #[.agg #[.bool (oN o), .string (oI o), .string (oF o)], .int .i64 (oE o)]) ∧ Below w.heap.size w w' := by
  have DC := Lib.hid (fun wx => refCheck_ok d wx hd)
  have hm := hd.most
  have si : (dStr d.i).size = d.i.length := dStr_size d.i
  have sf : (dStr d.f).size = d.f.length := dStr_size d.f
  have DI : Hid (∀ wx : World, Calls Tryd.prog 71 #[.bool false, .int .i64 1] wx fun r w' => r = .returned (.int .i64 0) ∧ wx = w') := fun wx => refIf_any false 1 wx
  have DFi : Hid (∀ (g : Nat) (wx : World), g = wx.heap.size → Calls Tryd.prog 70 #[.slice (some ⟨g, 0, none⟩) 2 2] (wx.alloc (.cells #[.int .i64 0, .int .i64 0] 24)) fun r w' => r = .returned (.int .i64 0) ∧ Below wx.heap.size wx w') := fun g wx hg => by
    subst hg
    refine (refFirst_two 0 0 wx.heap.size _ _ _ (heap_alloc_new wx _)).mono ?_
    rintro e w' ⟨rfl, rfl⟩
    exact ⟨rfl, (Below.refl _ _).alloc (Nat.le_refl _) _⟩
  obtain ⟨t, ht⟩ : ∃ t : Nat, (t : Int) = k - (d.f.length : Int) := ⟨(k - (d.f.length : Int)).toNat, by omega⟩
  have ht2 : (k - (d.f.length : Int)).toNat = t := by omega
  have hn40 : (digs d.num).length ≤ 40 := (digs_le d.num 40 (by omega)).2 (num_lt hd)
  obtain ⟨S2, hS2⟩ : ∃ S2, S2 = dStr (List.replicate t 0) := ⟨_, rfl⟩
  have hz2s : S2.size ≤ 1000 := by rw [hS2, dStr_size, List.length_replicate]; omega
  have hzs1 : (dStr (digs d.num)).size ≤ 40 := by rw [dStr_size]; exact hn40
  obtain ⟨S1, hS1⟩ : ∃ S1, S1 = dStr (digs d.num) := ⟨_, rfl⟩
  rw [← hS1] at hzs1
  have g1 : ¬ 9223372036854775807 < S1.size + S2.size := by omega
  have DN : Hid (∀ wx : World, Calls Tryd.prog 110 #[(.agg #[.bool d.neg, .string (dStr d.i), .string (dStr d.f)])] wx fun e w' => e = .returned (.string S1) ∧ Below wx.heap.size wx w') := fun wx => by rw [hS1]; exact refNum_any d wx hd
  have DZ : Hid (∀ (wx : World) {nI : Int}, nI = k - (d.f.length : Int) → Calls Tryd.prog 111 #[.int .i64 nI] wx fun r w' => r = .returned (.string S2) ∧ Below wx.heap.size wx w') := fun wx nI h => by
    rw [hS2]
    exact refZeros_any t nI wx (by omega) (by omega)
  have DM : Hid (∀ (wx : World) {X : ByteArray}, X = S1 ++ S2 → Calls Tryd.prog 104 #[.bool d.neg, .string X, .int .i64 0] wx fun e w' => e = .returned (.tuple #[.agg #[.bool (oN o), .string (oI o), .string (oF o)], .int .i64 (oE o)]) ∧ Below wx.heap.size wx w') := fun wx X hX => by
    rw [hX, hS1, hS2, dStr_append]
    refine refMake_any d.neg _ 0 wx o ?_ (.append (digs_digs _) (.zeros _)) (by rw [List.length_append, List.length_replicate]; omega) (by omega)
    rw [dVal_append, dVal_zeros, List.length_replicate, Nat.add_zero, dVal_digs, ← ho]
    unfold shD mkN Dc.z
    rw [if_pos hc, ht2]
    congr 1
    cases d.neg <;> simp [Int.neg_mul]
  have wz : IntKind.i64.wrap (k - (d.f.length : Int)) = k - (d.f.length : Int) := IntWalk.i64_in _ (by omega)
  clear hS1 hS2 hn40 ht ht2
  have q0 : decide (k < -40) = false := decide_eq_false (by omega)
  have q1 : decide (40 < k) = false := decide_eq_false (by omega)
  have qc : decide ((d.f.length : Int) < k) = true := decide_eq_true hc
  clear hd ho
  go_enter Tryd.func72, Tryd.ntmps72
  go_wp2_with fail
  obtain ⟨W2, hW2⟩ : ∃ W2, W2 = (w.alloc (.cells #[.bool d.neg, .string (dStr d.i), .string (dStr d.f)] 23)).alloc (.cells #[.bool false, .string ⟨#[]⟩, .string ⟨#[]⟩] 23) := ⟨_, rfl⟩
  obtain ⟨hb2, hz2, CA, CR, FR⟩ : Below w.heap.size w W2 ∧ w.heap.size + 2 ≤ W2.heap.size ∧ Cells3 W2 w.heap.size (.bool d.neg) (.string (dStr d.i)) (.string (dStr d.f)) ∧ Cells3 W2 (w.heap.size + 1) (.bool false) (.string ⟨#[]⟩) (.string ⟨#[]⟩) ∧ ∀ i, W2.frozen? ⟨w.heap.size + 1, i, none⟩ = false := by rw [hW2]; exact ⟨below_two w _ _, two_boxes w _ _ _ _ _ _ _⟩
  rw [← hW2]
  clear hW2
  (with_reducible refine (DC.out _).mono ?_)
  rintro e W3 ⟨rfl, hb3⟩
  have CA3 := Lib.hid (CA.keep hb3 (by omega))
  have CR3 := Lib.hid (CR.keep hb3 (by omega))
  have FR3 := Lib.hid (frozen_keep FR hb3 (by omega))
  have hz3 : w.heap.size + 2 ≤ W3.heap.size := by have := hb3.size; omega
  have B3 := Lib.hid (hb2.trans (hb3.mono hb2.size))
  clear hb3 hb2 CA CR FR hz2
  go_wp2_with fail
  (with_reducible refine (DI.out _).mono ?_)
  rintro e W4 ⟨rfl, rfl⟩
  go_wp2_with fail
  (with_reducible refine (DFi.out _ _ ?_).mono ?_)
  · rfl
  rintro e W5 ⟨rfl, hb5⟩
  obtain ⟨a0, a1, a2⟩ := CA3.out.keep hb5 (by omega)
  have HA := Lib.hid (show Cells3 W5 w.heap.size _ _ _ from ⟨a0, a1, a2⟩)
  have CR5 := Lib.hid (CR3.out.keep hb5 (by omega))
  have FR5 := Lib.hid (frozen_keep FR3.out hb5 (by omega))
  have hz5 : w.heap.size + 2 ≤ W5.heap.size := by have := hb5.size; omega
  have B5 := Lib.hid (B3.out.trans (hb5.mono B3.out.size))
  clear hb5 CA3 CR3 FR3 hz3 B3
  go_wp2_with fail
  go_region_held3 (fun w' => w'.cell? ⟨w.heap.size, 0, none⟩ = some (.bool d.neg) ∧ w'.cell? ⟨w.heap.size, 1, none⟩ = some (.string (dStr d.i)) ∧ w'.cell? ⟨w.heap.size, 2, none⟩ = some (.string (dStr d.f)))
    (first
      | exact ⟨a0, a1, a2⟩
      | (have t := HA.out.keep (undrew hbN) (by omega); exact ⟨t.1, t.2.1, t.2.2⟩)
      | (have t := HA.out.keep (undrew hbZ) (by omega); exact ⟨t.1, t.2.1, t.2.2⟩)
      | (have t := HA.out.keep ((undrew hbN).trans (hbZ.mono (undrew hbN).size)) (by omega); exact ⟨t.1, t.2.1, t.2.2⟩)
      | (have t := HA.out.keep ((undrew hbZ).trans (hbN.mono (undrew hbZ).size)) (by omega); exact ⟨t.1, t.2.1, t.2.2⟩)
      | (have t := HA.out.keep hb4 (by omega); exact ⟨t.1, t.2.1, t.2.2⟩)
      | (have t := HA.out.keep hb4 (by omega); exact ⟨(far3 _ _ _ _ _ _ _ (by omega)).trans t.1, (far3 _ _ _ _ _ _ _ (by omega)).trans t.2.1, (far3 _ _ _ _ _ _ _ (by omega)).trans t.2.2⟩)
      | go_keep)
    (first
      | (go_at_call 110; (with_reducible refine (DN.out _).mono ?_); rintro e wN ⟨rfl, hbN⟩)
      | (go_at_call 111; (with_reducible refine (DZ.out _ ?_).mono ?_); (focus omega); rintro e wZ ⟨rfl, hbZ⟩)
      | (go_at_call 104; (with_reducible refine (DM.out _ ?_).mono ?_); (focus rfl); rintro e wB ⟨rfl, hbM⟩
         have hb4 : Below W5.heap.size W5 wB := by (first | exact ((undrew hbN).trans (hbZ.mono (undrew hbN).size)).trans (hbM.mono ((undrew hbN).trans (hbZ.mono (undrew hbN).size)).size) | exact ((undrew hbZ).trans (hbN.mono (undrew hbZ).size)).trans (hbM.mono ((undrew hbZ).trans (hbN.mono (undrew hbZ).size)).size))
         obtain ⟨r0, r1, r2⟩ := CR5.out.keep hb4 (by omega)
         have z0 := frozen_keep FR5.out hb4 (by omega)))
  all_goals
    obtain ⟨e0, e1, e2⟩ := res_cells r0 r1 r2 (.bool (oN o)) (.string (oI o)) (.string (oF o))
    go_wp2
    exact bodyPost_ret (v := .tuple #[.agg #[.bool (oN o), .string (oI o), .string (oF o)], .int .i64 (oE o)]) (by simp [results, Tryd.results72, go_sem, e0, e1, e2]) rfl ⟨rfl, res_below (B5.out.trans (hb4.mono B5.out.size)) (by omega) _ _ _⟩
end
section
open Go.RowKit
attribute [local go_sem ↓] Go.wp_at_zero Go.wp_at_succ

set_option maxHeartbeats 4000000 in
set_option maxRecDepth 100000 in
theorem refOf_err (dn : Bool) (di df : ByteArray) (k c er : Int) (w : World) (HC : ∀ wx : World, Calls Tryd.prog 42 #[.agg #[.bool dn, .string di, .string df]] wx fun r w' => r = .returned (.int .i64 c) ∧ Below wx.heap.size wx w') (he : er ≠ 0) (hF : firstE c (ifE (decide (k < 0) || decide (40 < k)) 1) = er) :
    Calls Tryd.prog 29 #[.agg #[.bool dn, .string di, .string df], .int .i64 k] w fun e w' => e = .returned (.tuple #[.agg #[.bool false, .string ⟨#[]⟩, .string ⟨#[]⟩, .string ⟨#[]⟩, .int .i64 0, .int .i64 0, .string ⟨#[]⟩, .string ⟨#[]⟩, .int .i64 0], .int .i64 er]) ∧ Below w.heap.size w w' := by
  have DC := Lib.hid HC
  have qe : (er != 0) = true := by simpa using he
  clear HC he
  have DF0 : ∀ (x : Int) (g : Nat) (wx : World), firstE c x = er → g = wx.heap.size → Calls Tryd.prog 70 #[.slice (some ⟨g, 0, none⟩) 2 2] (wx.alloc (.cells #[.int .i64 c, .int .i64 x] 24)) fun r w' => r = .returned (.int .i64 er) ∧ Below wx.heap.size wx w' := fun x g wx hx hg => by
    subst hg
    refine (refFirst_two c x wx.heap.size _ _ _ (heap_alloc_new wx _)).mono ?_
    rintro r w' ⟨rfl, rfl⟩
    exact ⟨by rw [hx], (Below.refl _ _).alloc (Nat.le_refl _) _⟩
  rcases (by omega : k < 0 ∨ (¬ k < 0 ∧ 40 < k) ∨ (¬ k < 0 ∧ ¬ 40 < k)) with h | ⟨h, h'⟩ | ⟨h, h'⟩
  · have q0 : decide (k < 0) = true := decide_eq_true h
    have hx : firstE c 1 = er := by rw [← hF, q0]; rfl
    have DI : Hid (∀ wx : World, Calls Tryd.prog 71 #[.bool true, .int .i64 1] wx fun r w' => r = .returned (.int .i64 1) ∧ wx = w') := fun wx => refIf_any true 1 wx
    have DFi := Lib.hid (fun g wx => DF0 1 g wx hx)
    clear DF0 hF hx h
    go_enter Tryd.func29, Tryd.ntmps29
    go_wp2_with fail
    obtain ⟨W2, hW2⟩ : ∃ W2, W2 = (w.alloc (.cells #[.bool dn, .string di, .string df] 23)).alloc (.cells #[.bool false, .string ⟨#[]⟩, .string ⟨#[]⟩, .string ⟨#[]⟩, .int .i64 0, .int .i64 0, .string ⟨#[]⟩, .string ⟨#[]⟩, .int .i64 0] 36) := ⟨_, rfl⟩
    obtain ⟨hb2, hz2, CA, CR, FR⟩ := dec_ops w (dn) di df 23 36
    rw [← hW2] at hb2 hz2 CA CR FR ⊢
    clear hW2
    (with_reducible refine (DC.out _).mono ?_)
    rintro e3 W3 ⟨rfl, hb3⟩
    have CA3 := Lib.hid (CA.keep hb3 (by omega))
    have CR3 := Lib.hid (CR.keep hb3 (by omega))
    have FR3 := Lib.hid (frozen_keep FR hb3 (by omega))
    have hz3 : w.heap.size + 2 ≤ W3.heap.size := by have := hb3.size; omega
    have B3 := Lib.hid (hb2.trans (hb3.mono hb2.size))
    clear hb3 hb2 CA CR FR hz2
    go_wp2_with fail
    (with_reducible refine (DI.out _).mono ?_)
    rintro e4 W4 ⟨rfl, rfl⟩
    go_wp2_with fail
    (with_reducible refine (DFi.out _ _ ?_).mono ?_)
    · rfl
    rintro e5 W5 ⟨rfl, hb5⟩
    have CA5 := CA3.out.keep hb5 (by omega)
    have CR5 := Lib.hid (CR3.out.keep hb5 (by omega))
    have FR5 := Lib.hid (frozen_keep FR3.out hb5 (by omega))
    have hz5 : w.heap.size + 2 ≤ W5.heap.size := by have := hb5.size; omega
    have B5 := Lib.hid (B3.out.trans (hb5.mono B3.out.size))
    clear hb5 CA3 CR3 FR3 B3
    obtain ⟨r0, r1, r2, r3, r4, r5, r6, r7, r8⟩ := CR5.out
    have z0 := FR5.out
    obtain ⟨e0, e1, e2, e3, e4, e5, e6, e7, e8⟩ := res_cells9 CR5.out (.bool false) (.string ⟨#[]⟩) (.string ⟨#[]⟩) (.string ⟨#[]⟩) (.int .i64 0) (.int .i64 0) (.string ⟨#[]⟩) (.string ⟨#[]⟩) (.int .i64 0)
    go_wp2
    exact bodyPost_ret (v := .tuple #[.agg #[.bool false, .string ⟨#[]⟩, .string ⟨#[]⟩, .string ⟨#[]⟩, .int .i64 0, .int .i64 0, .string ⟨#[]⟩, .string ⟨#[]⟩, .int .i64 0], .int .i64 er]) (by simp [results, Tryd.results29, go_sem, e0, e1, e2, e3, e4, e5, e6, e7, e8]) rfl ⟨rfl, res_below9 B5.out (by omega) _ _ _ _ _ _ _ _ _⟩
  · have q0 : decide (k < 0) = false := decide_eq_false h
    have q1 : decide (40 < k) = true := decide_eq_true h'
    have hx : firstE c 1 = er := by rw [← hF, q0, q1]; rfl
    have DI : Hid (∀ wx : World, Calls Tryd.prog 71 #[.bool true, .int .i64 1] wx fun r w' => r = .returned (.int .i64 1) ∧ wx = w') := fun wx => refIf_any true 1 wx
    have DFi := Lib.hid (fun g wx => DF0 1 g wx hx)
    clear DF0 hF hx h h'
    go_enter Tryd.func29, Tryd.ntmps29
    go_wp2_with fail
    obtain ⟨W2, hW2⟩ : ∃ W2, W2 = (w.alloc (.cells #[.bool dn, .string di, .string df] 23)).alloc (.cells #[.bool false, .string ⟨#[]⟩, .string ⟨#[]⟩, .string ⟨#[]⟩, .int .i64 0, .int .i64 0, .string ⟨#[]⟩, .string ⟨#[]⟩, .int .i64 0] 36) := ⟨_, rfl⟩
    obtain ⟨hb2, hz2, CA, CR, FR⟩ := dec_ops w (dn) di df 23 36
    rw [← hW2] at hb2 hz2 CA CR FR ⊢
    clear hW2
    (with_reducible refine (DC.out _).mono ?_)
    rintro e3 W3 ⟨rfl, hb3⟩
    have CA3 := Lib.hid (CA.keep hb3 (by omega))
    have CR3 := Lib.hid (CR.keep hb3 (by omega))
    have FR3 := Lib.hid (frozen_keep FR hb3 (by omega))
    have hz3 : w.heap.size + 2 ≤ W3.heap.size := by have := hb3.size; omega
    have B3 := Lib.hid (hb2.trans (hb3.mono hb2.size))
    clear hb3 hb2 CA CR FR hz2
    go_wp2_with fail
    (with_reducible refine (DI.out _).mono ?_)
    rintro e4 W4 ⟨rfl, rfl⟩
    go_wp2_with fail
    (with_reducible refine (DFi.out _ _ ?_).mono ?_)
    · rfl
    rintro e5 W5 ⟨rfl, hb5⟩
    have CA5 := CA3.out.keep hb5 (by omega)
    have CR5 := Lib.hid (CR3.out.keep hb5 (by omega))
    have FR5 := Lib.hid (frozen_keep FR3.out hb5 (by omega))
    have hz5 : w.heap.size + 2 ≤ W5.heap.size := by have := hb5.size; omega
    have B5 := Lib.hid (B3.out.trans (hb5.mono B3.out.size))
    clear hb5 CA3 CR3 FR3 B3
    obtain ⟨r0, r1, r2, r3, r4, r5, r6, r7, r8⟩ := CR5.out
    have z0 := FR5.out
    obtain ⟨e0, e1, e2, e3, e4, e5, e6, e7, e8⟩ := res_cells9 CR5.out (.bool false) (.string ⟨#[]⟩) (.string ⟨#[]⟩) (.string ⟨#[]⟩) (.int .i64 0) (.int .i64 0) (.string ⟨#[]⟩) (.string ⟨#[]⟩) (.int .i64 0)
    go_wp2
    exact bodyPost_ret (v := .tuple #[.agg #[.bool false, .string ⟨#[]⟩, .string ⟨#[]⟩, .string ⟨#[]⟩, .int .i64 0, .int .i64 0, .string ⟨#[]⟩, .string ⟨#[]⟩, .int .i64 0], .int .i64 er]) (by simp [results, Tryd.results29, go_sem, e0, e1, e2, e3, e4, e5, e6, e7, e8]) rfl ⟨rfl, res_below9 B5.out (by omega) _ _ _ _ _ _ _ _ _⟩
  · have q0 : decide (k < 0) = false := decide_eq_false h
    have q1 : decide (40 < k) = false := decide_eq_false h'
    have hx : firstE c 0 = er := by rw [← hF, q0, q1]; rfl
    have DI : Hid (∀ wx : World, Calls Tryd.prog 71 #[.bool false, .int .i64 1] wx fun r w' => r = .returned (.int .i64 0) ∧ wx = w') := fun wx => refIf_any false 1 wx
    have DFi := Lib.hid (fun g wx => DF0 0 g wx hx)
    clear DF0 hF hx h h'
    go_enter Tryd.func29, Tryd.ntmps29
    go_wp2_with fail
    obtain ⟨W2, hW2⟩ : ∃ W2, W2 = (w.alloc (.cells #[.bool dn, .string di, .string df] 23)).alloc (.cells #[.bool false, .string ⟨#[]⟩, .string ⟨#[]⟩, .string ⟨#[]⟩, .int .i64 0, .int .i64 0, .string ⟨#[]⟩, .string ⟨#[]⟩, .int .i64 0] 36) := ⟨_, rfl⟩
    obtain ⟨hb2, hz2, CA, CR, FR⟩ := dec_ops w (dn) di df 23 36
    rw [← hW2] at hb2 hz2 CA CR FR ⊢
    clear hW2
    (with_reducible refine (DC.out _).mono ?_)
    rintro e3 W3 ⟨rfl, hb3⟩
    have CA3 := Lib.hid (CA.keep hb3 (by omega))
    have CR3 := Lib.hid (CR.keep hb3 (by omega))
    have FR3 := Lib.hid (frozen_keep FR hb3 (by omega))
    have hz3 : w.heap.size + 2 ≤ W3.heap.size := by have := hb3.size; omega
    have B3 := Lib.hid (hb2.trans (hb3.mono hb2.size))
    clear hb3 hb2 CA CR FR hz2
    go_wp2_with fail
    (with_reducible refine (DI.out _).mono ?_)
    rintro e4 W4 ⟨rfl, rfl⟩
    go_wp2_with fail
    (with_reducible refine (DFi.out _ _ ?_).mono ?_)
    · rfl
    rintro e5 W5 ⟨rfl, hb5⟩
    have CA5 := CA3.out.keep hb5 (by omega)
    have CR5 := Lib.hid (CR3.out.keep hb5 (by omega))
    have FR5 := Lib.hid (frozen_keep FR3.out hb5 (by omega))
    have hz5 : w.heap.size + 2 ≤ W5.heap.size := by have := hb5.size; omega
    have B5 := Lib.hid (B3.out.trans (hb5.mono B3.out.size))
    clear hb5 CA3 CR3 FR3 B3
    obtain ⟨r0, r1, r2, r3, r4, r5, r6, r7, r8⟩ := CR5.out
    have z0 := FR5.out
    obtain ⟨e0, e1, e2, e3, e4, e5, e6, e7, e8⟩ := res_cells9 CR5.out (.bool false) (.string ⟨#[]⟩) (.string ⟨#[]⟩) (.string ⟨#[]⟩) (.int .i64 0) (.int .i64 0) (.string ⟨#[]⟩) (.string ⟨#[]⟩) (.int .i64 0)
    go_wp2
    exact bodyPost_ret (v := .tuple #[.agg #[.bool false, .string ⟨#[]⟩, .string ⟨#[]⟩, .string ⟨#[]⟩, .int .i64 0, .int .i64 0, .string ⟨#[]⟩, .string ⟨#[]⟩, .int .i64 0], .int .i64 er]) (by simp [results, Tryd.results29, go_sem, e0, e1, e2, e3, e4, e5, e6, e7, e8]) rfl ⟨rfl, res_below9 B5.out (by omega) _ _ _ _ _ _ _ _ _⟩

set_option maxHeartbeats 4000000 in
set_option maxRecDepth 100000 in
theorem refOf_none (d : Dc) (k : Int) (w : World) (hd : d.Ok) (hk1 : 0 ≤ k) (hk2 : k ≤ 40) (ho : shD d k = none) :
    Calls Tryd.prog 29 #[.agg #[.bool d.neg, .string (dStr d.i), .string (dStr d.f)], .int .i64 k] w fun e w' => e = .returned (.tuple #[.agg #[.bool false, .string ⟨#[]⟩, .string ⟨#[]⟩, .string ⟨#[]⟩, .int .i64 0, .int .i64 0, .string ⟨#[]⟩, .string ⟨#[]⟩, .int .i64 0], .int .i64 3]) ∧ Below w.heap.size w w' := by
  have DC := Lib.hid (fun wx => refCheck_ok d wx hd)
  have DI : Hid (∀ wx : World, Calls Tryd.prog 71 #[.bool false, .int .i64 1] wx fun r w' => r = .returned (.int .i64 0) ∧ wx = w') := fun wx => refIf_any false 1 wx
  have DFi : Hid (∀ (g : Nat) (wx : World), g = wx.heap.size → Calls Tryd.prog 70 #[.slice (some ⟨g, 0, none⟩) 2 2] (wx.alloc (.cells #[.int .i64 0, .int .i64 0] 24)) fun r w' => r = .returned (.int .i64 0) ∧ Below wx.heap.size wx w') := fun g wx hg => by
    subst hg
    refine (refFirst_two 0 0 wx.heap.size _ _ _ (heap_alloc_new wx _)).mono ?_
    rintro e w' ⟨rfl, rfl⟩
    exact ⟨rfl, (Below.refl _ _).alloc (Nat.le_refl _) _⟩
  have q0 : decide (k < 0) = false := decide_eq_false (by omega)
  have q1 : decide (40 < k) = false := decide_eq_false (by omega)
  have DS : Hid (∀ wx : World, Calls Tryd.prog 72 #[.agg #[.bool d.neg, .string (dStr d.i), .string (dStr d.f)], .int .i64 k] wx fun e w' => e = .returned (.tuple #[.agg #[.bool false, .string ⟨#[]⟩, .string ⟨#[]⟩], .int .i64 3]) ∧ Below wx.heap.size wx w') := fun wx => by
    by_cases hc : (d.f.length : Int) < k
    · exact refShift_gt d k wx _ ho hd (by omega) hk2 hc
    · exact refShift_le d k wx _ ho hd (by omega) hk2 hc
  clear hd ho
  go_enter Tryd.func29, Tryd.ntmps29
  go_wp2_with fail
  obtain ⟨W2, hW2⟩ : ∃ W2, W2 = (w.alloc (.cells #[.bool d.neg, .string (dStr d.i), .string (dStr d.f)] 23)).alloc (.cells #[.bool false, .string ⟨#[]⟩, .string ⟨#[]⟩, .string ⟨#[]⟩, .int .i64 0, .int .i64 0, .string ⟨#[]⟩, .string ⟨#[]⟩, .int .i64 0] 36) := ⟨_, rfl⟩
  obtain ⟨hb2, hz2, CA, CR, FR⟩ := dec_ops w (d.neg) (dStr d.i) (dStr d.f) 23 36
  rw [← hW2] at hb2 hz2 CA CR FR ⊢
  clear hW2
  (with_reducible refine (DC.out _).mono ?_)
  rintro e3 W3 ⟨rfl, hb3⟩
  have CA3 := Lib.hid (CA.keep hb3 (by omega))
  have CR3 := Lib.hid (CR.keep hb3 (by omega))
  have FR3 := Lib.hid (frozen_keep FR hb3 (by omega))
  have hz3 : w.heap.size + 2 ≤ W3.heap.size := by have := hb3.size; omega
  have B3 := Lib.hid (hb2.trans (hb3.mono hb2.size))
  clear hb3 hb2 CA CR FR hz2
  go_wp2_with fail
  (with_reducible refine (DI.out _).mono ?_)
  rintro e4 W4 ⟨rfl, rfl⟩
  go_wp2_with fail
  (with_reducible refine (DFi.out _ _ ?_).mono ?_)
  · rfl
  rintro e5 W5 ⟨rfl, hb5⟩
  have CA5 := CA3.out.keep hb5 (by omega)
  have CR5 := Lib.hid (CR3.out.keep hb5 (by omega))
  have FR5 := Lib.hid (frozen_keep FR3.out hb5 (by omega))
  have hz5 : w.heap.size + 2 ≤ W5.heap.size := by have := hb5.size; omega
  have B5 := Lib.hid (B3.out.trans (hb5.mono B3.out.size))
  clear hb5 CA3 CR3 FR3 B3
  obtain ⟨a0, a1, a2⟩ := CA5
  go_wp2_with fail
  (with_reducible refine (DS.out _).mono ?_)
  rintro e6 W6 ⟨rfl, hb6⟩
  have CR6 := Lib.hid (CR5.out.keep hb6 (by omega))
  have FR6 := Lib.hid (frozen_keep FR5.out hb6 (by omega))
  have hz6 : w.heap.size + 2 ≤ W6.heap.size := by have := hb6.size; omega
  have B6 := Lib.hid (B5.out.trans (hb6.mono B5.out.size))
  clear hb6 CR5 FR5 B5 a0 a1 a2
  have ba : Below W6.heap.size W6 (W6.alloc (.cells #[.bool false, .string ⟨#[]⟩, .string ⟨#[]⟩] 23)) := (Below.refl _ _).alloc (Nat.le_refl _) _
  have CR7 := Lib.hid (CR6.out.keep ba (by omega))
  have FR7 := Lib.hid (frozen_keep FR6.out ba (by omega))
  have B7 := Lib.hid (B6.out.trans (ba.mono B6.out.size))
  clear ba
  obtain ⟨r0, r1, r2, r3, r4, r5, r6, r7, r8⟩ := CR7.out
  have z0 := FR7.out
  obtain ⟨e0, e1, e2, e3, e4, e5, e6, e7, e8⟩ := res_cells9 CR7.out (.bool false) (.string ⟨#[]⟩) (.string ⟨#[]⟩) (.string ⟨#[]⟩) (.int .i64 0) (.int .i64 0) (.string ⟨#[]⟩) (.string ⟨#[]⟩) (.int .i64 0)
  go_wp2
  exact bodyPost_ret (v := .tuple #[.agg #[.bool false, .string ⟨#[]⟩, .string ⟨#[]⟩, .string ⟨#[]⟩, .int .i64 0, .int .i64 0, .string ⟨#[]⟩, .string ⟨#[]⟩, .int .i64 0], .int .i64 3]) (by simp [results, Tryd.results29, go_sem, e0, e1, e2, e3, e4, e5, e6, e7, e8]) rfl ⟨rfl, res_below9 B7.out (by omega) _ _ _ _ _ _ _ _ _⟩

set_option maxHeartbeats 4000000 in
set_option maxRecDepth 100000 in
theorem refOf_ok (d x t : Dc) (k : Int) (w : World) (hd : d.Ok) (hx : x.Ok) (hk1 : 0 ≤ k) (hk2 : k ≤ 40) (ho : shD d k = some x) (ht : trimD ⟨false, x.i, x.f⟩ = t) :
    Calls Tryd.prog 29 #[.agg #[.bool d.neg, .string (dStr d.i), .string (dStr d.f)], .int .i64 k] w fun e w' => e = .returned (.tuple #[.agg #[.bool false, .string (dStr t.i), .string (dStr t.f), .string (dStr x.i), .int .i64 x.f.length, .int .i64 t.f.length, .string (dStr (intg x.f)), .string (dStr (intg t.f)), .int .i64 k], .int .i64 0]) ∧ Below w.heap.size w w' := by
  have DC := Lib.hid (fun wx => refCheck_ok d wx hd)
  have DI : Hid (∀ wx : World, Calls Tryd.prog 71 #[.bool false, .int .i64 1] wx fun r w' => r = .returned (.int .i64 0) ∧ wx = w') := fun wx => refIf_any false 1 wx
  have DFi : Hid (∀ (g : Nat) (wx : World), g = wx.heap.size → Calls Tryd.prog 70 #[.slice (some ⟨g, 0, none⟩) 2 2] (wx.alloc (.cells #[.int .i64 0, .int .i64 0] 24)) fun r w' => r = .returned (.int .i64 0) ∧ Below wx.heap.size wx w') := fun g wx hg => by
    subst hg
    refine (refFirst_two 0 0 wx.heap.size _ _ _ (heap_alloc_new wx _)).mono ?_
    rintro e w' ⟨rfl, rfl⟩
    exact ⟨rfl, (Below.refl _ _).alloc (Nat.le_refl _) _⟩
  have q0 : decide (k < 0) = false := decide_eq_false (by omega)
  have q1 : decide (40 < k) = false := decide_eq_false (by omega)
  have DS : Hid (∀ wx : World, Calls Tryd.prog 72 #[.agg #[.bool d.neg, .string (dStr d.i), .string (dStr d.f)], .int .i64 k] wx fun e w' => e = .returned (.tuple #[.agg #[.bool x.neg, .string (dStr x.i), .string (dStr x.f)], .int .i64 0]) ∧ Below wx.heap.size wx w') := fun wx => by
    by_cases hc : (d.f.length : Int) < k
    · exact refShift_gt d k wx _ ho hd (by omega) hk2 hc
    · exact refShift_le d k wx _ ho hd (by omega) hk2 hc
  have DO := Lib.hid (fun wx => refShown_any x t k wx ht hx)
  clear hd ho hx ht
  go_enter Tryd.func29, Tryd.ntmps29
  go_wp2_with fail
  obtain ⟨W2, hW2⟩ : ∃ W2, W2 = (w.alloc (.cells #[.bool d.neg, .string (dStr d.i), .string (dStr d.f)] 23)).alloc (.cells #[.bool false, .string ⟨#[]⟩, .string ⟨#[]⟩, .string ⟨#[]⟩, .int .i64 0, .int .i64 0, .string ⟨#[]⟩, .string ⟨#[]⟩, .int .i64 0] 36) := ⟨_, rfl⟩
  obtain ⟨hb2, hz2, CA, CR, FR⟩ := dec_ops w (d.neg) (dStr d.i) (dStr d.f) 23 36
  rw [← hW2] at hb2 hz2 CA CR FR ⊢
  clear hW2
  (with_reducible refine (DC.out _).mono ?_)
  rintro e3 W3 ⟨rfl, hb3⟩
  have CA3 := Lib.hid (CA.keep hb3 (by omega))
  have CR3 := Lib.hid (CR.keep hb3 (by omega))
  have FR3 := Lib.hid (frozen_keep FR hb3 (by omega))
  have hz3 : w.heap.size + 2 ≤ W3.heap.size := by have := hb3.size; omega
  have B3 := Lib.hid (hb2.trans (hb3.mono hb2.size))
  clear hb3 hb2 CA CR FR hz2
  go_wp2_with fail
  (with_reducible refine (DI.out _).mono ?_)
  rintro e4 W4 ⟨rfl, rfl⟩
  go_wp2_with fail
  (with_reducible refine (DFi.out _ _ ?_).mono ?_)
  · rfl
  rintro e5 W5 ⟨rfl, hb5⟩
  have CA5 := CA3.out.keep hb5 (by omega)
  have CR5 := Lib.hid (CR3.out.keep hb5 (by omega))
  have FR5 := Lib.hid (frozen_keep FR3.out hb5 (by omega))
  have hz5 : w.heap.size + 2 ≤ W5.heap.size := by have := hb5.size; omega
  have B5 := Lib.hid (B3.out.trans (hb5.mono B3.out.size))
  clear hb5 CA3 CR3 FR3 B3
  obtain ⟨a0, a1, a2⟩ := CA5
  go_wp2_with fail
  (with_reducible refine (DS.out _).mono ?_)
  rintro e6 W6 ⟨rfl, hb6⟩
  have CR6 := Lib.hid (CR5.out.keep hb6 (by omega))
  have FR6 := Lib.hid (frozen_keep FR5.out hb6 (by omega))
  have hz6 : w.heap.size + 2 ≤ W6.heap.size := by have := hb6.size; omega
  have B6 := Lib.hid (B5.out.trans (hb6.mono B5.out.size))
  clear hb6 CR5 FR5 B5 a0 a1 a2
  obtain ⟨W7, hW7⟩ : ∃ W7, W7 = W6.alloc (.cells #[.bool false, .string (dStr x.i), .string (dStr x.f)] 23) := ⟨_, rfl⟩
  have ba : Below W6.heap.size W6 W7 := by rw [hW7]; exact (Below.refl _ _).alloc (Nat.le_refl _) _
  have KR7 := Lib.hid (CR6.out.keep ba (by omega))
  have KF7 := Lib.hid (frozen_keep FR6.out ba (by omega))
  have KB7 := Lib.hid (B6.out.trans (ba.mono B6.out.size))
  have hz7 : w.heap.size + 2 ≤ W7.heap.size := by have := ba.size; omega
  have HW7 := Lib.hid hW7
  clear hW7 ba CR6 FR6 B6
  go_wp2_with fail
  rw [← HW7.out]
  (with_reducible refine (DO.out _).mono ?_)
  rintro e8 W8 ⟨rfl, hb8⟩
  have CR8 := Lib.hid (KR7.out.keep hb8 (by omega))
  have FR8 := Lib.hid (frozen_keep KF7.out hb8 (by omega))
  have B8 := Lib.hid (KB7.out.trans (hb8.mono KB7.out.size))
  clear hb8 KR7 KF7 KB7 hz7 HW7
  obtain ⟨r0, r1, r2, r3, r4, r5, r6, r7, r8⟩ := CR8.out
  have z0 := FR8.out
  obtain ⟨e0, e1, e2, e3, e4, e5, e6, e7, e8⟩ := res_cells9 CR8.out (.bool false) (.string (dStr t.i)) (.string (dStr t.f)) (.string (dStr x.i)) (.int .i64 x.f.length) (.int .i64 t.f.length) (.string (dStr (intg x.f))) (.string (dStr (intg t.f))) (.int .i64 k)
  go_wp2
  exact bodyPost_ret (v := .tuple #[.agg #[.bool false, .string (dStr t.i), .string (dStr t.f), .string (dStr x.i), .int .i64 x.f.length, .int .i64 t.f.length, .string (dStr (intg x.f)), .string (dStr (intg t.f)), .int .i64 k], .int .i64 0]) (by simp [results, Tryd.results29, go_sem, e0, e1, e2, e3, e4, e5, e6, e7, e8]) rfl ⟨rfl, res_below9 B8.out (by omega) _ _ _ _ _ _ _ _ _⟩
end
end Go.Proofs.YtpbljcjghjbjdaaDoor
