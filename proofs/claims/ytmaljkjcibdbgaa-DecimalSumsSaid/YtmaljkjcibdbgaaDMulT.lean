/- Mul of the program. -/
import Derived.Test.YtmaljkjcibdbgaaDSum
import Derived.Test.YtmaljkjcibdbgaaDMul
namespace Go.Proofs.Ytmaljkjcibdbgaa
open Go.RowKit
attribute [local go_sem ↓] Go.wp_at_zero Go.wp_at_succ

theorem mul_room (a b : Dc) (ha : a.Ok) (hb : b.Ok) : a.num * b.num < 10 ^ (a.i.length + a.f.length + (b.i.length + b.f.length)) := by
  have h1 := dVal_lt (Digs.append ha.di ha.df)
  have h2 := dVal_lt (Digs.append hb.di hb.df)
  rw [List.length_append] at h1 h2
  rw [Nat.pow_add]
  exact Nat.mul_lt_mul'' h1 h2
theorem placed_self (d : Dc) : dVal (placed d.i d.f d.i.length d.f.length) = d.num := by
  rw [placed_num]
  unfold Dc.raised
  rw [Nat.sub_self, Nat.pow_zero, Nat.mul_one]

set_option maxHeartbeats 2000000 in
set_option maxRecDepth 100000 in
theorem mul_ok (a b : Dc) (w : World) (o : Option Dc) (ho : mulD a b = o) (ha : a.Ok) (hb : b.Ok) :
    Calls Try.prog 23 #[.agg #[.bool a.neg, .string (dStr a.i), .string (dStr a.f)], .agg #[.bool b.neg, .string (dStr b.i), .string (dStr b.f)]] w fun e w' => e = .returned (.tuple #[.agg #[.bool (oN o), .string (oI o), .string (oF o)], .int .i64 (oE o)]) ∧ Below w.heap.size w w' := by
  have DC := Lib.hid (fun wx => checkBoth_two a.neg b.neg (dStr a.i) (dStr a.f) (dStr b.i) (dStr b.f) wx (by rw [dStr_size]; have := ha.most; omega) (by rw [dStr_size]; have := ha.most; omega) (by rw [dStr_size]; have := hb.most; omega) (by rw [dStr_size]; have := hb.most; omega) (ok_of ha))
  have q := ck_ok hb
  obtain ⟨hm1, hm2, ho1, ho2⟩ : a.i.length + a.f.length ≤ 40 ∧ b.i.length + b.f.length ≤ 40 ∧ 1 ≤ a.i.length ∧ 1 ≤ b.i.length := ⟨ha.most, hb.most, ha.one, hb.one⟩
  have sia : (dStr a.i).size = a.i.length := dStr_size a.i
  have sfa : (dStr a.f).size = a.f.length := dStr_size a.f
  have sib : (dStr b.i).size = b.i.length := dStr_size b.i
  have sfb : (dStr b.f).size = b.f.length := dStr_size b.f
  have DX : Hid (∀ (wx : World) {wI sI : Int}, wI = (a.i.length : Int) → sI = (a.f.length : Int) → Calls Try.prog 59 #[.agg #[.bool a.neg, .string (dStr a.i), .string (dStr a.f)], .int .i64 wI, .int .i64 sI] wx fun e w' => e = .returned (.slice (some ⟨wx.heap.size + 1, 0, none⟩) (a.i.length + a.f.length) (a.i.length + a.f.length)) ∧ Blk w' (wx.heap.size + 1) (nC (placed a.i a.f a.i.length a.f.length)) ∧ Below wx.heap.size wx w') :=
    fun wx wI sI h3 h4 => digitsOf_at a.neg a.i a.f a.i.length a.f.length wI sI wx h3 h4 ha.di ha.df ho1 (Nat.le_refl _) (Nat.le_refl _) (by omega)
  have DY : Hid (∀ (wx : World) {wI sI : Int}, wI = (b.i.length : Int) → sI = (b.f.length : Int) → Calls Try.prog 59 #[.agg #[.bool b.neg, .string (dStr b.i), .string (dStr b.f)], .int .i64 wI, .int .i64 sI] wx fun e w' => e = .returned (.slice (some ⟨wx.heap.size + 1, 0, none⟩) (b.i.length + b.f.length) (b.i.length + b.f.length)) ∧ Blk w' (wx.heap.size + 1) (nC (placed b.i b.f b.i.length b.f.length)) ∧ Below wx.heap.size wx w') :=
    fun wx wI sI h3 h4 => digitsOf_at b.neg b.i b.f b.i.length b.f.length wI sI wx h3 h4 hb.di hb.df ho2 (Nat.le_refl _) (Nat.le_refl _) (by omega)
  have DF : Hid (∀ (ga gb : Nat) (wx : World), Blk wx ga (nC (placed a.i a.f a.i.length a.f.length)) → Blk wx gb (nC (placed b.i b.f b.i.length b.f.length)) → Calls Try.prog 61 #[.slice (some ⟨ga, 0, none⟩) (a.i.length + a.f.length) (a.i.length + a.f.length), .slice (some ⟨gb, 0, none⟩) (b.i.length + b.f.length) (b.i.length + b.f.length)] wx (MadeN wx (a.i.length + a.f.length + (b.i.length + b.f.length)) (a.num * b.num))) := by
    intro ga gb wx h1 h2
    have := multiply_any _ _ ga gb _ _ wx h1 h2 (placed_digs ha.di ha.df) (placed_digs hb.di hb.df) (placed_len (Nat.le_refl _) (Nat.le_refl _)) (placed_len (Nat.le_refl _) (Nat.le_refl _)) (by omega) (by omega) (by omega)
    rw [placed_self, placed_self] at this
    exact this
  have DM : Hid (∀ (g : Nat) (wx : World) {ng : Bool} {sI : Int}, ng = (a.neg != b.neg) → sI = (a.f.length : Int) + (b.f.length : Int) → Blk wx g (nC (fixD (a.i.length + a.f.length + (b.i.length + b.f.length)) (a.num * b.num))) → Calls Try.prog 60 #[.bool ng, .slice (some ⟨g, 0, none⟩) (a.i.length + a.f.length + (b.i.length + b.f.length)) (a.i.length + a.f.length + (b.i.length + b.f.length)), .int .i64 sI] wx fun e w' => e = .returned (.tuple #[.agg #[.bool (oN o), .string (oI o), .string (oF o)], .int .i64 (oE o)]) ∧ Below wx.heap.size wx w') := by
    intro g wx ng sI hn h3 hB
    rw [hn, h3, ← Int.natCast_add]
    exact decimalOf_at _ _ _ g (a.f.length + b.f.length) wx o (by rw [fixD_val, mul_ref]; exact ho) (fixD_digs _ _) (fixD_len (by omega) (mul_room a b ha hb)) hB (by omega) (by omega)
  clear ha hb ho
  go_enter Try.func23, Try.ntmps23
  go_wp2_with fail
  obtain ⟨W2, hW2⟩ : ∃ W2, W2 = ((w.alloc (.cells #[.bool a.neg, .string (dStr a.i), .string (dStr a.f)] 23)).alloc (.cells #[.bool b.neg, .string (dStr b.i), .string (dStr b.f)] 23)).alloc (.cells #[.bool false, .string ⟨#[]⟩, .string ⟨#[]⟩] 23) := ⟨_, rfl⟩
  obtain ⟨hb2, hz2, CA, CB, CR, FR⟩ : Below w.heap.size w W2 ∧ w.heap.size + 3 ≤ W2.heap.size ∧ Cells3 W2 w.heap.size (.bool a.neg) (.string (dStr a.i)) (.string (dStr a.f)) ∧ Cells3 W2 (w.heap.size + 1) (.bool b.neg) (.string (dStr b.i)) (.string (dStr b.f)) ∧ Cells3 W2 (w.heap.size + 2) (.bool false) (.string ⟨#[]⟩) (.string ⟨#[]⟩) ∧ ∀ i, W2.frozen? ⟨w.heap.size + 2, i, none⟩ = false := by rw [hW2]; exact ⟨below_three w _ _ _, three_boxes w _ _ _ _ _ _ _ _ _ _⟩
  have FB : ∀ i, W2.frozen? ⟨w.heap.size + 1, i, none⟩ = false := by
    rw [hW2]
    intro i
    have h1 := (two_boxes w (.bool a.neg) (.string (dStr a.i)) (.string (dStr a.f)) (.bool b.neg) (.string (dStr b.i)) (.string (dStr b.f)) 23).2.2.2
    exact frozen_keep h1 ((Below.refl _ _).alloc (Nat.le_refl _) _) (by simp) i
  rw [← hW2]
  clear hW2
  (with_reducible refine (DC.out _).mono ?_)
  rintro e W3 ⟨rfl, hb3⟩
  have CA3 := CA.keep hb3 (by omega)
  have CB3 := CB.keep hb3 (by omega)
  have CR3 := Lib.hid (CR.keep hb3 (by omega))
  have FR3 := Lib.hid (frozen_keep FR hb3 (by omega))
  have hz3 : w.heap.size + 3 ≤ W3.heap.size := by have := hb3.size; omega
  have B3 := Lib.hid (hb2.trans (hb3.mono hb2.size))
  clear hb3 hb2 CA CB CR FR FB hz2
  obtain ⟨na0, na1, na2⟩ := CA3
  have CA3 := Lib.hid (show Cells3 W3 w.heap.size _ _ _ from ⟨na0, na1, na2⟩)
  have CB3 := Lib.hid CB3
  go_wp2_with fail
  (with_reducible refine (DX.out _ ?_ ?_).mono ?_)
  · omega
  · omega
  rintro e W4 ⟨rfl, hka, hb4⟩
  clear na0 na1 na2
  have KA := Lib.hid hka
  have LA := hka.lt
  have CA4 := Lib.hid (CA3.out.keep hb4 (by omega))
  obtain ⟨nb0, nb1, nb2⟩ := CB3.out.keep hb4 (by omega)
  have CB4 := Lib.hid (show Cells3 W4 (w.heap.size + 1) _ _ _ from ⟨nb0, nb1, nb2⟩)
  have CR4 := Lib.hid (CR3.out.keep hb4 (by omega))
  have FR4 := Lib.hid (frozen_keep FR3.out hb4 (by omega))
  have hz4 : w.heap.size + 3 ≤ W4.heap.size := by have := hb4.size; omega
  have B4 := Lib.hid (B3.out.trans (hb4.mono B3.out.size))
  clear hka hb4
  go_wp2_with fail
  (with_reducible refine (DY.out _ ?_ ?_).mono ?_)
  · omega
  · omega
  rintro e W5 ⟨rfl, hkb, hb5⟩
  clear nb0 nb1 nb2
  have KB := Lib.hid hkb
  have LB := hkb.lt
  have KA5 := Lib.hid (KA.out.below hb5 LA)
  have CA5 := CA4.out.keep hb5 (by omega)
  have CB5 := CB4.out.keep hb5 (by omega)
  have CR5 := Lib.hid (CR4.out.keep hb5 (by omega))
  have FR5 := Lib.hid (frozen_keep FR4.out hb5 (by omega))
  have hz5 : w.heap.size + 3 ≤ W5.heap.size := by have := hb5.size; omega
  have B5 := Lib.hid (B4.out.trans (hb5.mono B4.out.size))
  clear hkb hb5 CA3 CB3 CR3 FR3 hz3 B3 CA4 CB4 CR4 FR4 hz4 B4
  obtain ⟨na0, na1, na2⟩ := CA5
  obtain ⟨nb0, nb1, nb2⟩ := CB5
  have CA5 := Lib.hid (show Cells3 W5 w.heap.size _ _ _ from ⟨na0, na1, na2⟩)
  have CB5 := Lib.hid (show Cells3 W5 (w.heap.size + 1) _ _ _ from ⟨nb0, nb1, nb2⟩)
  have wz : IntKind.i64.wrap ((a.f.length : Int) + (b.f.length : Int)) = (a.f.length : Int) + (b.f.length : Int) := IntWalk.i64_in _ (by omega)
  go_wp2_with fail
  go_region_held3 (fun w' => (w'.cell? ⟨w.heap.size, 0, none⟩ = some (.bool a.neg) ∧ w'.cell? ⟨w.heap.size, 1, none⟩ = some (.string (dStr a.i)) ∧ w'.cell? ⟨w.heap.size, 2, none⟩ = some (.string (dStr a.f))) ∧ (w'.cell? ⟨w.heap.size + 1, 0, none⟩ = some (.bool b.neg) ∧ w'.cell? ⟨w.heap.size + 1, 1, none⟩ = some (.string (dStr b.i)) ∧ w'.cell? ⟨w.heap.size + 1, 2, none⟩ = some (.string (dStr b.f))))
    (first
      | exact ⟨⟨na0, na1, na2⟩, ⟨nb0, nb1, nb2⟩⟩
      | (have t := CA5.out.keep (undrew hbA) (by omega); have u := CB5.out.keep (undrew hbA) (by omega); exact ⟨⟨t.1, t.2.1, t.2.2⟩, ⟨u.1, u.2.1, u.2.2⟩⟩)
      | (have t := CA5.out.keep hb4 (by omega); have u := CB5.out.keep hb4 (by omega); exact ⟨⟨t.1, t.2.1, t.2.2⟩, ⟨u.1, u.2.1, u.2.2⟩⟩)
      | (have t := CA5.out.keep hb4 (by omega); have u := CB5.out.keep hb4 (by omega); exact ⟨⟨(far3 _ _ _ _ _ _ _ (by omega)).trans t.1, (far3 _ _ _ _ _ _ _ (by omega)).trans t.2.1, (far3 _ _ _ _ _ _ _ (by omega)).trans t.2.2⟩, ⟨(far3 _ _ _ _ _ _ _ (by omega)).trans u.1, (far3 _ _ _ _ _ _ _ (by omega)).trans u.2.1, (far3 _ _ _ _ _ _ _ (by omega)).trans u.2.2⟩⟩)
      | go_keep)
    (first
      | (go_at_call 61; (with_reducible refine (DF.out _ _ _ ?_ ?_).mono ?_); (focus exact KA5.out); (focus exact KB.out); rintro e wA ⟨rfl, hkA, hbA⟩)
      | (go_at_call 60; (with_reducible refine (DM.out _ _ ?_ ?_ ?_).mono ?_); (focus rfl); (focus omega); (focus exact hkA); rintro e wB ⟨rfl, hbB⟩
         have hb4 : Below W5.heap.size W5 wB := (undrew hbA).trans (hbB.mono (undrew hbA).size)
         obtain ⟨r0, r1, r2⟩ := CR5.out.keep hb4 (by omega)
         have z0 := frozen_keep FR5.out hb4 (by omega)))
  obtain ⟨e0, e1, e2⟩ := res_cells r0 r1 r2 (.bool (oN o)) (.string (oI o)) (.string (oF o))
  go_wp2
  exact bodyPost_ret (v := .tuple #[.agg #[.bool (oN o), .string (oI o), .string (oF o)], .int .i64 (oE o)]) (by simp [results, Try.results23, go_sem, e0, e1, e2]) rfl ⟨rfl, res_below (B5.out.trans (hb4.mono B5.out.size)) (by omega) _ _ _⟩

set_option maxHeartbeats 1000000 in
set_option maxRecDepth 100000 in
theorem mul_bad1 (na nb : Bool) (ia fa ib fb : ByteArray) (w : World) (h1 : ia.size ≤ 140737488355328) (h2 : fa.size ≤ 140737488355328) (h : okB na ia fa = false) :
    Calls Try.prog 23 #[.agg #[.bool na, .string ia, .string fa], .agg #[.bool nb, .string ib, .string fb]] w fun e w' => e = .returned (.tuple #[.agg #[.bool false, .string ⟨#[]⟩, .string ⟨#[]⟩], .int .i64 20]) ∧ Below w.heap.size w w' := by
  have DC := Lib.hid (fun wx => checkBoth_one na nb ia fa ib fb wx h1 h2 h)
  go_enter Try.func23, Try.ntmps23
  go_wp2_with fail
  obtain ⟨W2, hW2⟩ : ∃ W2, W2 = ((w.alloc (.cells #[.bool na, .string ia, .string fa] 23)).alloc (.cells #[.bool nb, .string ib, .string fb] 23)).alloc (.cells #[.bool false, .string ⟨#[]⟩, .string ⟨#[]⟩] 23) := ⟨_, rfl⟩
  obtain ⟨hb2, hz2, CA, CB, CR, FR⟩ : Below w.heap.size w W2 ∧ w.heap.size + 3 ≤ W2.heap.size ∧ Cells3 W2 w.heap.size (.bool na) (.string ia) (.string fa) ∧ Cells3 W2 (w.heap.size + 1) (.bool nb) (.string ib) (.string fb) ∧ Cells3 W2 (w.heap.size + 2) (.bool false) (.string ⟨#[]⟩) (.string ⟨#[]⟩) ∧ ∀ i, W2.frozen? ⟨w.heap.size + 2, i, none⟩ = false := by rw [hW2]; exact ⟨below_three w _ _ _, three_boxes w _ _ _ _ _ _ _ _ _ _⟩
  rw [← hW2]
  clear hW2
  (with_reducible refine (DC.out _).mono ?_)
  rintro e W3 ⟨rfl, hb3⟩
  obtain ⟨r0, r1, r2⟩ := CR.keep hb3 (by omega)
  have z0 := frozen_keep FR hb3 (by omega)
  have B3 := Lib.hid (hb2.trans (hb3.mono hb2.size))
  obtain ⟨e0, e1, e2⟩ := res_cells r0 r1 r2 (.bool false) (.string ⟨#[]⟩) (.string ⟨#[]⟩)
  clear hb3 hb2 CA CB CR FR
  go_wp2
  exact bodyPost_ret (v := .tuple #[.agg #[.bool false, .string ⟨#[]⟩, .string ⟨#[]⟩], .int .i64 20]) (by simp [results, Try.results23, go_sem, e0, e1, e2]) rfl ⟨rfl, res_below B3.out (by omega) _ _ _⟩

set_option maxHeartbeats 1000000 in
set_option maxRecDepth 100000 in
theorem mul_bad2 (na nb : Bool) (ia fa ib fb : ByteArray) (w : World) (h1 : ia.size ≤ 140737488355328) (h2 : fa.size ≤ 140737488355328) (h3 : ib.size ≤ 140737488355328) (h4 : fb.size ≤ 140737488355328) (ha : okB na ia fa = true) (h : okB nb ib fb = false) :
    Calls Try.prog 23 #[.agg #[.bool na, .string ia, .string fa], .agg #[.bool nb, .string ib, .string fb]] w fun e w' => e = .returned (.tuple #[.agg #[.bool false, .string ⟨#[]⟩, .string ⟨#[]⟩], .int .i64 20]) ∧ Below w.heap.size w w' := by
  have DC := Lib.hid (fun wx => checkBoth_two na nb ia fa ib fb wx h1 h2 h3 h4 ha)
  have q := ck_bad h
  clear h ha
  go_enter Try.func23, Try.ntmps23
  go_wp2_with fail
  obtain ⟨W2, hW2⟩ : ∃ W2, W2 = ((w.alloc (.cells #[.bool na, .string ia, .string fa] 23)).alloc (.cells #[.bool nb, .string ib, .string fb] 23)).alloc (.cells #[.bool false, .string ⟨#[]⟩, .string ⟨#[]⟩] 23) := ⟨_, rfl⟩
  obtain ⟨hb2, hz2, CA, CB, CR, FR⟩ : Below w.heap.size w W2 ∧ w.heap.size + 3 ≤ W2.heap.size ∧ Cells3 W2 w.heap.size (.bool na) (.string ia) (.string fa) ∧ Cells3 W2 (w.heap.size + 1) (.bool nb) (.string ib) (.string fb) ∧ Cells3 W2 (w.heap.size + 2) (.bool false) (.string ⟨#[]⟩) (.string ⟨#[]⟩) ∧ ∀ i, W2.frozen? ⟨w.heap.size + 2, i, none⟩ = false := by rw [hW2]; exact ⟨below_three w _ _ _, three_boxes w _ _ _ _ _ _ _ _ _ _⟩
  rw [← hW2]
  clear hW2
  (with_reducible refine (DC.out _).mono ?_)
  rintro e W3 ⟨rfl, hb3⟩
  obtain ⟨r0, r1, r2⟩ := CR.keep hb3 (by omega)
  have z0 := frozen_keep FR hb3 (by omega)
  have B3 := Lib.hid (hb2.trans (hb3.mono hb2.size))
  obtain ⟨e0, e1, e2⟩ := res_cells r0 r1 r2 (.bool false) (.string ⟨#[]⟩) (.string ⟨#[]⟩)
  clear hb3 hb2 CA CB CR FR
  go_wp2
  exact bodyPost_ret (v := .tuple #[.agg #[.bool false, .string ⟨#[]⟩, .string ⟨#[]⟩], .int .i64 20]) (by simp [results, Try.results23, go_sem, e0, e1, e2]) rfl ⟨rfl, res_below B3.out (by omega) _ _ _⟩
end Go.Proofs.Ytmaljkjcibdbgaa
