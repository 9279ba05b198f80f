/- The reference's Mul. -/
import Derived.Test.YtmaljkjcibdbgaaDRefDiv
import Derived.Test.YtmaljkjcibdbgaaDRefTimes
import Derived.Test.YtmaljkjcibdbgaaDRefNum
namespace Go.Proofs.Ytmaljkjcibdbgaa
open Go.RowKit
attribute [local go_sem ↓] Go.wp_at_zero Go.wp_at_succ

set_option maxHeartbeats 2000000 in
set_option maxRecDepth 100000 in
theorem refMul_err (na nb : Bool) (ia fa ib fb : ByteArray) (c1 c2 e : Int) (w : World) (H1 : ∀ wx : World, Calls Try.prog 54 #[(.agg #[.bool na, .string ia, .string fa])] wx fun r w' => r = .returned (.int .i64 c1) ∧ Below wx.heap.size wx w') (H2 : ∀ wx : World, Calls Try.prog 54 #[(.agg #[.bool nb, .string ib, .string fb])] wx fun r w' => r = .returned (.int .i64 c2) ∧ Below wx.heap.size wx w') (he : e ≠ 0) (hF : firstE c1 c2 = e) :
    Calls Try.prog 24 #[.agg #[.bool na, .string ia, .string fa], .agg #[.bool nb, .string ib, .string fb]] w fun r w' => r = .returned (.tuple #[.agg #[.bool false, .string ⟨#[]⟩, .string ⟨#[]⟩], .int .i64 e]) ∧ Below w.heap.size w w' := by
  have D1 := Lib.hid H1
  have D2 := Lib.hid H2
  have DF := Lib.hid (first_fresh c1 c2 e hF)
  have qe : (e != 0) = true := by simpa using he
  clear H1 H2 he hF
  go_enter Try.func24, Try.ntmps24
  go_wp2_with fail
  obtain ⟨W2, hW2⟩ : ∃ W2, W2 = ((w.alloc (.cells #[.bool na, .string ia, .string fa] 23)).alloc (.cells #[.bool nb, .string ib, .string fb] 23)).alloc (.cells #[.bool false, .string ⟨#[]⟩, .string ⟨#[]⟩] 23) := ⟨_, rfl⟩
  obtain ⟨hb2, hz2, CA, CB, CR, FR⟩ : Below w.heap.size w W2 ∧ w.heap.size + 3 ≤ W2.heap.size ∧ Cells3 W2 w.heap.size (.bool na) (.string ia) (.string fa) ∧ Cells3 W2 (w.heap.size + 1) (.bool nb) (.string ib) (.string fb) ∧ Cells3 W2 (w.heap.size + 2) (.bool false) (.string ⟨#[]⟩) (.string ⟨#[]⟩) ∧ ∀ i, W2.frozen? ⟨w.heap.size + 2, i, none⟩ = false := by rw [hW2]; exact ⟨below_three w _ _ _, three_boxes w _ _ _ _ _ _ _ _ _ _⟩
  rw [← hW2]
  clear hW2
  have CAh := Lib.hid CA
  have CBh := Lib.hid CB
  obtain ⟨na0, na1, na2⟩ := CA
  obtain ⟨nb0, nb1, nb2⟩ := CB
  have B2 := Lib.hid hb2
  clear hb2
  go_region_held3 (fun w' => (w'.cell? ⟨w.heap.size, 0, none⟩ = some (.bool na) ∧ w'.cell? ⟨w.heap.size, 1, none⟩ = some (.string ia) ∧ w'.cell? ⟨w.heap.size, 2, none⟩ = some (.string fa)) ∧ (w'.cell? ⟨w.heap.size + 1, 0, none⟩ = some (.bool nb) ∧ w'.cell? ⟨w.heap.size + 1, 1, none⟩ = some (.string ib) ∧ w'.cell? ⟨w.heap.size + 1, 2, none⟩ = some (.string fb)))
    (first
      | exact ⟨⟨na0, na1, na2⟩, ⟨nb0, nb1, nb2⟩⟩
      | (have t := CAh.out.keep hb5 (by omega); have u := CBh.out.keep hb5 (by omega); exact ⟨⟨t.1, t.2.1, t.2.2⟩, ⟨u.1, u.2.1, u.2.2⟩⟩)
      | (have t := CAh.out.keep hb4 (by omega); have u := CBh.out.keep hb4 (by omega); exact ⟨⟨t.1, t.2.1, t.2.2⟩, ⟨u.1, u.2.1, u.2.2⟩⟩)
      | (have t := CAh.out.keep (undrew hbA) (by omega); have u := CBh.out.keep (undrew hbA) (by omega); exact ⟨⟨t.1, t.2.1, t.2.2⟩, ⟨u.1, u.2.1, u.2.2⟩⟩)
      | go_keep)
    (first
      | (go_at_call 54; (with_reducible refine (D1.out _).mono ?_); rintro e wA ⟨rfl, hbA⟩)
      | (go_at_call 54; (with_reducible refine (D2.out _).mono ?_); rintro e wB ⟨rfl, hbB⟩
         have hb4 : Below W2.heap.size W2 wB := (undrew hbA).trans (hbB.mono (undrew hbA).size))
      | (go_at_call 53; (with_reducible refine (DF.out _ _ ?_).mono ?_); (focus rfl); rintro e wC ⟨rfl, hbC⟩
         have hb5 : Below W2.heap.size W2 wC := hb4.trans (hbC.mono hb4.size)))
  obtain ⟨r0, r1, r2⟩ := CR.keep hb5 (by omega)
  have z0 := frozen_keep FR hb5 (by omega)
  obtain ⟨e0, e1, e2⟩ := res_cells r0 r1 r2 (.bool false) (.string ⟨#[]⟩) (.string ⟨#[]⟩)
  go_wp2
  exact bodyPost_ret (v := .tuple #[.agg #[.bool false, .string ⟨#[]⟩, .string ⟨#[]⟩], .int .i64 e]) (by simp [results, Try.results24, go_sem, e0, e1, e2]) rfl ⟨rfl, res_below (B2.out.trans (hb5.mono B2.out.size)) (by omega) _ _ _⟩

set_option maxHeartbeats 4000000 in
set_option maxRecDepth 100000 in
theorem refMul_ok (a b : Dc) (w : World) (o : Option Dc) (ho : mulD a b = o) (ha : a.Ok) (hb : b.Ok) :
    Calls Try.prog 24 #[.agg #[.bool a.neg, .string (dStr a.i), .string (dStr a.f)], .agg #[.bool b.neg, .string (dStr b.i), .string (dStr b.f)]] w fun r w' => r = .returned (.tuple #[.agg #[.bool (oN o), .string (oI o), .string (oF o)], .int .i64 (oE o)]) ∧ Below w.heap.size w w' := by
  have D1 := Lib.hid (fun wx => refCheck_ok a wx ha)
  have D2 := Lib.hid (fun wx => refCheck_ok b wx hb)
  have DF := Lib.hid (first_fresh 0 0 0 rfl)
  have s3 : a.f.length + b.f.length ≤ 80 := by have := ha.most; have := hb.most; omega
  have X1 := num_lt ha
  have X2 := num_lt hb
  have R1 := (digs_le a.num 40 (by omega)).2 X1
  have R2 := (digs_le b.num 40 (by omega)).2 X2
  have R3 := (digs_le (a.num * b.num) (40 + 40) (by omega)).2 (by rw [Nat.pow_add]; exact Nat.mul_lt_mul'' X1 X2)
  have DA := Lib.hid (fun wx => refNum_any a wx ha)
  have DB := Lib.hid (fun wx => refNum_any b wx hb)
  have DX := Lib.hid (fun wx => refTimes_any a.num b.num wx (by omega) (by omega))
  have DM : Hid (∀ (wx : World) {ng : Bool} {sI : Int}, ng = (a.neg != b.neg) → sI = (a.f.length : Int) + (b.f.length : Int) → Calls Try.prog 62 #[.bool ng, .string (dStr (digs (a.num * b.num))), .int .i64 sI] wx fun r w' => r = .returned (.tuple #[.agg #[.bool (oN o), .string (oI o), .string (oF o)], .int .i64 (oE o)]) ∧ Below wx.heap.size wx w') := by
    intro wx ng sI hn h3
    rw [hn, h3, ← Int.natCast_add]
    exact refMake_any _ (digs (a.num * b.num)) (a.f.length + b.f.length) wx o (by rw [dVal_digs, mul_ref]; exact ho) (digs_digs _) (by omega) (by omega)
  have sfa : (dStr a.f).size = a.f.length := dStr_size a.f
  have sfb : (dStr b.f).size = b.f.length := dStr_size b.f
  have wz : IntKind.i64.wrap ((a.f.length : Int) + (b.f.length : Int)) = (a.f.length : Int) + (b.f.length : Int) := IntWalk.i64_in _ (by omega)
  generalize hv : a.num * b.num = vv at *
  generalize hra : a.num = ra at *
  generalize hrb : b.num = rb at *
  clear ha hb ho X1 X2 R1 R2 R3 hv hra hrb
  go_enter Try.func24, Try.ntmps24
  go_wp2_with fail
  obtain ⟨W2, hW2⟩ : ∃ W2, W2 = ((w.alloc (.cells #[.bool a.neg, .string (dStr a.i), .string (dStr a.f)] 23)).alloc (.cells #[.bool b.neg, .string (dStr b.i), .string (dStr b.f)] 23)).alloc (.cells #[.bool false, .string ⟨#[]⟩, .string ⟨#[]⟩] 23) := ⟨_, rfl⟩
  obtain ⟨hb2, hz2, CA, CB, CR, FR⟩ : Below w.heap.size w W2 ∧ w.heap.size + 3 ≤ W2.heap.size ∧ Cells3 W2 w.heap.size (.bool a.neg) (.string (dStr a.i)) (.string (dStr a.f)) ∧ Cells3 W2 (w.heap.size + 1) (.bool b.neg) (.string (dStr b.i)) (.string (dStr b.f)) ∧ Cells3 W2 (w.heap.size + 2) (.bool false) (.string ⟨#[]⟩) (.string ⟨#[]⟩) ∧ ∀ i, W2.frozen? ⟨w.heap.size + 2, i, none⟩ = false := by rw [hW2]; exact ⟨below_three w _ _ _, three_boxes w _ _ _ _ _ _ _ _ _ _⟩
  rw [← hW2]
  clear hW2
  have CAh := Lib.hid CA
  have CBh := Lib.hid CB
  obtain ⟨na0, na1, na2⟩ := CA
  obtain ⟨nb0, nb1, nb2⟩ := CB
  have B2 := Lib.hid hb2
  clear hb2
  go_region_held3 (fun w' => (w'.cell? ⟨w.heap.size, 0, none⟩ = some (.bool a.neg) ∧ w'.cell? ⟨w.heap.size, 1, none⟩ = some (.string (dStr a.i)) ∧ w'.cell? ⟨w.heap.size, 2, none⟩ = some (.string (dStr a.f))) ∧ (w'.cell? ⟨w.heap.size + 1, 0, none⟩ = some (.bool b.neg) ∧ w'.cell? ⟨w.heap.size + 1, 1, none⟩ = some (.string (dStr b.i)) ∧ w'.cell? ⟨w.heap.size + 1, 2, none⟩ = some (.string (dStr b.f))))
    (first
      | exact ⟨⟨na0, na1, na2⟩, ⟨nb0, nb1, nb2⟩⟩
      | (have t := CAh.out.keep hb5 (by omega); have u := CBh.out.keep hb5 (by omega); exact ⟨⟨t.1, t.2.1, t.2.2⟩, ⟨u.1, u.2.1, u.2.2⟩⟩)
      | (have t := CAh.out.keep hb4 (by omega); have u := CBh.out.keep hb4 (by omega); exact ⟨⟨t.1, t.2.1, t.2.2⟩, ⟨u.1, u.2.1, u.2.2⟩⟩)
      | (have t := CAh.out.keep (undrew hbA) (by omega); have u := CBh.out.keep (undrew hbA) (by omega); exact ⟨⟨t.1, t.2.1, t.2.2⟩, ⟨u.1, u.2.1, u.2.2⟩⟩)
      | go_keep)
    (first
      | (go_at_call 54; (with_reducible refine (D1.out _).mono ?_); rintro e wA ⟨rfl, hbA⟩)
      | (go_at_call 54; (with_reducible refine (D2.out _).mono ?_); rintro e wB ⟨rfl, hbB⟩
         have hb4 : Below W2.heap.size W2 wB := (undrew hbA).trans (hbB.mono (undrew hbA).size))
      | (go_at_call 53; (with_reducible refine (DF.out _ _ ?_).mono ?_); (focus rfl); rintro e wC ⟨rfl, hbC⟩
         have hb5 : Below W2.heap.size W2 wC := hb4.trans (hbC.mono hb4.size)))
  have CA := CAh.out.keep hb5 (by omega)
  have CB := CBh.out.keep hb5 (by omega)
  have CR := Lib.hid (CR.keep hb5 (by omega))
  have FR := Lib.hid (frozen_keep FR hb5 (by omega))
  have hz3 : w.heap.size + 3 ≤ wC.heap.size := by have := hb5.size; omega
  have B3 := Lib.hid (B2.out.trans (hb5.mono B2.out.size))
  clear hb4 hb5 hbC hbA hbB na0 na1 na2 nb0 nb1 nb2 CAh CBh B2
  have CAh := Lib.hid CA
  have CBh := Lib.hid CB
  obtain ⟨na0, na1, na2⟩ := CA
  obtain ⟨nb0, nb1, nb2⟩ := CB
  go_wp2_with fail
  go_region_held3 (fun w' => (w'.cell? ⟨w.heap.size, 0, none⟩ = some (.bool a.neg) ∧ w'.cell? ⟨w.heap.size, 1, none⟩ = some (.string (dStr a.i)) ∧ w'.cell? ⟨w.heap.size, 2, none⟩ = some (.string (dStr a.f))) ∧ (w'.cell? ⟨w.heap.size + 1, 0, none⟩ = some (.bool b.neg) ∧ w'.cell? ⟨w.heap.size + 1, 1, none⟩ = some (.string (dStr b.i)) ∧ w'.cell? ⟨w.heap.size + 1, 2, none⟩ = some (.string (dStr b.f))))
    (first
      | exact ⟨⟨na0, na1, na2⟩, ⟨nb0, nb1, nb2⟩⟩
      | (have t := CAh.out.keep hb6 (by omega); have u := CBh.out.keep hb6 (by omega); exact ⟨⟨t.1, t.2.1, t.2.2⟩, ⟨u.1, u.2.1, u.2.2⟩⟩)
      | (have t := CAh.out.keep hb6 (by omega); have u := CBh.out.keep hb6 (by omega); exact ⟨⟨(far3 _ _ _ _ _ _ _ (by omega)).trans t.1, (far3 _ _ _ _ _ _ _ (by omega)).trans t.2.1, (far3 _ _ _ _ _ _ _ (by omega)).trans t.2.2⟩, ⟨(far3 _ _ _ _ _ _ _ (by omega)).trans u.1, (far3 _ _ _ _ _ _ _ (by omega)).trans u.2.1, (far3 _ _ _ _ _ _ _ (by omega)).trans u.2.2⟩⟩)
      | (have t := CAh.out.keep hb5 (by omega); have u := CBh.out.keep hb5 (by omega); exact ⟨⟨t.1, t.2.1, t.2.2⟩, ⟨u.1, u.2.1, u.2.2⟩⟩)
      | (have t := CAh.out.keep hb4 (by omega); have u := CBh.out.keep hb4 (by omega); exact ⟨⟨t.1, t.2.1, t.2.2⟩, ⟨u.1, u.2.1, u.2.2⟩⟩)
      | (have t := CAh.out.keep (undrew hbA) (by omega); have u := CBh.out.keep (undrew hbA) (by omega); exact ⟨⟨t.1, t.2.1, t.2.2⟩, ⟨u.1, u.2.1, u.2.2⟩⟩)
      | go_keep)
    (first
      | (go_at_call 64; (with_reducible refine (DA.out _).mono ?_); rintro e wA ⟨rfl, hbA⟩)
      | (go_at_call 64; (with_reducible refine (DB.out _).mono ?_); rintro e wB ⟨rfl, hbB⟩
         have hb4 : Below wC.heap.size wC wB := (undrew hbA).trans (hbB.mono (undrew hbA).size))
      | (go_at_call 63; (with_reducible refine (DX.out _).mono ?_); rintro e wD ⟨rfl, hbD⟩
         have hb5 : Below wC.heap.size wC wD := hb4.trans (hbD.mono hb4.size))
      | (go_at_call 62; (with_reducible refine (DM.out _ ?_ ?_).mono ?_); (focus rfl); (focus omega); rintro e wG ⟨rfl, hbG⟩
         have hb6 : Below wC.heap.size wC wG := hb5.trans (hbG.mono hb5.size)
         obtain ⟨r0, r1, r2⟩ := CR.out.keep hb6 (by omega)
         have z0 := frozen_keep FR.out hb6 (by omega)
         have B7 := Lib.hid (B3.out.trans (hb6.mono B3.out.size))))
  obtain ⟨e0, e1, e2⟩ := res_cells r0 r1 r2 (.bool (oN o)) (.string (oI o)) (.string (oF o))
  go_wp2
  exact bodyPost_ret (v := .tuple #[.agg #[.bool (oN o), .string (oI o), .string (oF o)], .int .i64 (oE o)]) (by simp [results, Try.results24, go_sem, e0, e1, e2]) rfl ⟨rfl, res_below B7.out (by omega) _ _ _⟩
end Go.Proofs.Ytmaljkjcibdbgaa
