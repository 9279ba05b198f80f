/- The reference's Compare. -/
import Derived.Test.YtpbljcjghjbjdaaDoorDRefDiv
namespace Go.Proofs.YtpbljcjghjbjdaaDoor
open Go.RowKit
attribute [local go_sem ↓] Go.wp_at_zero Go.wp_at_succ

set_option maxHeartbeats 2000000 in
set_option maxRecDepth 100000 in
theorem refCompare_err (na nb : Bool) (ia fa ib fb : ByteArray) (c1 c2 e : Int) (w : World) (H1 : ∀ wx : World, Calls Tryd.prog 42 #[(.agg #[.bool na, .string ia, .string fa])] wx fun r w' => r = .returned (.int .i64 c1) ∧ Below wx.heap.size wx w') (H2 : ∀ wx : World, Calls Tryd.prog 42 #[(.agg #[.bool nb, .string ib, .string fb])] wx fun r w' => r = .returned (.int .i64 c2) ∧ Below wx.heap.size wx w') (he : e ≠ 0) (hF : firstE c1 c2 = e) :
    Calls Tryd.prog 66 #[.agg #[.bool na, .string ia, .string fa], .agg #[.bool nb, .string ib, .string fb]] w fun r w' => r = .returned (.tuple #[.int .i64 0, .int .i64 e]) ∧ Below w.heap.size w w' := by
  have D1 := Lib.hid H1
  have D2 := Lib.hid H2
  have DF := Lib.hid (first_fresh c1 c2 e hF)
  have qe : (e != 0) = true := by simpa using he
  clear H1 H2 he hF
  go_enter Tryd.func66, Tryd.ntmps66
  go_wp2_with fail
  obtain ⟨W2, hW2⟩ : ∃ W2, W2 = (w.alloc (.cells #[.bool na, .string ia, .string fa] 23)).alloc (.cells #[.bool nb, .string ib, .string fb] 23) := ⟨_, rfl⟩
  obtain ⟨hb2, hz2, CA, CB, _⟩ : Below w.heap.size w W2 ∧ w.heap.size + 2 ≤ W2.heap.size ∧ Cells3 W2 w.heap.size (.bool na) (.string ia) (.string fa) ∧ Cells3 W2 (w.heap.size + 1) (.bool nb) (.string ib) (.string fb) ∧ ∀ i, W2.frozen? ⟨w.heap.size + 1, i, none⟩ = false := by rw [hW2]; exact ⟨below_two w _ _, two_boxes w _ _ _ _ _ _ _⟩
  rw [← hW2]
  clear hW2
  have CAh := Lib.hid CA
  have CBh := Lib.hid CB
  obtain ⟨na0, na1, na2⟩ := CA
  obtain ⟨nb0, nb1, nb2⟩ := CB
  have B2 := Lib.hid hb2
  clear hb2
  go_region_held3 (fun w' => (w'.cell? ⟨w.heap.size, 0, none⟩ = some (.bool na) ∧ w'.cell? ⟨w.heap.size, 1, none⟩ = some (.string ia) ∧ w'.cell? ⟨w.heap.size, 2, none⟩ = some (.string fa)) ∧ (w'.cell? ⟨w.heap.size + 1, 0, none⟩ = some (.bool nb) ∧ w'.cell? ⟨w.heap.size + 1, 1, none⟩ = some (.string ib) ∧ w'.cell? ⟨w.heap.size + 1, 2, none⟩ = some (.string fb)))
    (first
      | exact ⟨⟨na0, na1, na2⟩, ⟨nb0, nb1, nb2⟩⟩
      | (have t := CAh.out.keep hb5 (by omega); have u := CBh.out.keep hb5 (by omega); exact ⟨⟨t.1, t.2.1, t.2.2⟩, ⟨u.1, u.2.1, u.2.2⟩⟩)
      | (have t := CAh.out.keep hb4 (by omega); have u := CBh.out.keep hb4 (by omega); exact ⟨⟨t.1, t.2.1, t.2.2⟩, ⟨u.1, u.2.1, u.2.2⟩⟩)
      | (have t := CAh.out.keep (undrew hbA) (by omega); have u := CBh.out.keep (undrew hbA) (by omega); exact ⟨⟨t.1, t.2.1, t.2.2⟩, ⟨u.1, u.2.1, u.2.2⟩⟩)
      | go_keep)
    (first
      | (go_at_call 42; (with_reducible refine (D1.out _).mono ?_); rintro e wA ⟨rfl, hbA⟩)
      | (go_at_call 42; (with_reducible refine (D2.out _).mono ?_); rintro e wB ⟨rfl, hbB⟩
         have hb4 : Below W2.heap.size W2 wB := (undrew hbA).trans (hbB.mono (undrew hbA).size))
      | (go_at_call 70; (with_reducible refine (DF.out _ _ ?_).mono ?_); (focus rfl); rintro e wC ⟨rfl, hbC⟩
         have hb5 : Below W2.heap.size W2 wC := hb4.trans (hbC.mono hb4.size)))
  go_wp2
  exact bodyPost_ret (v := .tuple #[.int .i64 0, .int .i64 e]) (by simp [results, Tryd.results66, go_sem]) rfl ⟨rfl, B2.out.trans (hb5.mono B2.out.size)⟩

set_option maxHeartbeats 4000000 in
set_option maxRecDepth 100000 in
theorem refCompare_ok (a b : Dc) (w : World) (ha : a.Ok) (hb : b.Ok) :
    Calls Tryd.prog 66 #[.agg #[.bool a.neg, .string (dStr a.i), .string (dStr a.f)], .agg #[.bool b.neg, .string (dStr b.i), .string (dStr b.f)]] w fun r w' => r = .returned (.tuple #[.int .i64 (cmpD a b), .int .i64 0]) ∧ Below w.heap.size w w' := by
  have D1 := Lib.hid (fun wx => refCheck_ok a wx ha)
  have D2 := Lib.hid (fun wx => refCheck_ok b wx hb)
  have DF := Lib.hid (first_fresh 0 0 0 rfl)
  obtain ⟨s, hs⟩ : ∃ s, s = (max a.f.length b.f.length) := ⟨_, rfl⟩
  have s1 : a.f.length ≤ s := by omega
  have s2 : b.f.length ≤ s := by omega
  have s3 : s ≤ 40 := by have := ha.most; have := hb.most; omega
  have R1 := (digs_le (a.raised s) (40 + s) (by omega)).2 (raised_lt a 40 s ha.fm (by have := ha.most; omega) s1)
  have R2 := (digs_le (b.raised s) (40 + s) (by omega)).2 (raised_lt b 40 s hb.fm (by have := hb.most; omega) s2)
  have DA := Lib.hid (fun wx => refRaised_any a s wx ha s1 (by omega))
  have DB := Lib.hid (fun wx => refRaised_any b s wx hb s2 (by omega))
  have sfa : (dStr a.f).size = a.f.length := dStr_size a.f
  have sfb : (dStr b.f).size = b.f.length := dStr_size b.f
  have qs : (if a.f.length < b.f.length then (b.f.length : Int) else (a.f.length : Int)) = (s : Int) := by rw [hs]; split <;> omega
  have DC := Lib.hid (fun wx => refCmp_any (a.raised s) (b.raised s) wx (by omega) (by omega))
  have CF := Lib.hid (cmp_ref a b hs ha.sign hb.sign)
  have k1 : -1 ≤ cmpN (a.raised s) (b.raised s) ∧ cmpN (a.raised s) (b.raised s) ≤ 1 := by unfold cmpN; repeat' split; all_goals omega
  generalize cmpN (a.raised s) (b.raised s) = kk at *
  generalize a.raised s = ra at *
  generalize b.raised s = rb at *
  generalize cmpD a b = res at *
  have wn : IntKind.i64.wrap (-kk) = -kk := IntWalk.i64_in _ (by omega)
  have wm : IntKind.i64.wrap (-1) = -1 := by decide
  clear ha hb hs s1 s2 s3 R1 R2 k1
  go_enter Tryd.func66, Tryd.ntmps66
  go_wp2_with fail
  obtain ⟨W2, hW2⟩ : ∃ W2, W2 = (w.alloc (.cells #[.bool a.neg, .string (dStr a.i), .string (dStr a.f)] 23)).alloc (.cells #[.bool b.neg, .string (dStr b.i), .string (dStr b.f)] 23) := ⟨_, rfl⟩
  obtain ⟨hb2, hz2, CA, CB, _⟩ : Below w.heap.size w W2 ∧ w.heap.size + 2 ≤ W2.heap.size ∧ Cells3 W2 w.heap.size (.bool a.neg) (.string (dStr a.i)) (.string (dStr a.f)) ∧ Cells3 W2 (w.heap.size + 1) (.bool b.neg) (.string (dStr b.i)) (.string (dStr b.f)) ∧ ∀ i, W2.frozen? ⟨w.heap.size + 1, i, none⟩ = false := by rw [hW2]; exact ⟨below_two w _ _, two_boxes w _ _ _ _ _ _ _⟩
  rw [← hW2]
  clear hW2
  have CAh := Lib.hid CA
  have CBh := Lib.hid CB
  obtain ⟨na0, na1, na2⟩ := CA
  obtain ⟨nb0, nb1, nb2⟩ := CB
  have B2 := Lib.hid hb2
  clear hb2
  go_region_held3 (fun w' => (w'.cell? ⟨w.heap.size, 0, none⟩ = some (.bool a.neg) ∧ w'.cell? ⟨w.heap.size, 1, none⟩ = some (.string (dStr a.i)) ∧ w'.cell? ⟨w.heap.size, 2, none⟩ = some (.string (dStr a.f))) ∧ (w'.cell? ⟨w.heap.size + 1, 0, none⟩ = some (.bool b.neg) ∧ w'.cell? ⟨w.heap.size + 1, 1, none⟩ = some (.string (dStr b.i)) ∧ w'.cell? ⟨w.heap.size + 1, 2, none⟩ = some (.string (dStr b.f))))
    (first
      | exact ⟨⟨na0, na1, na2⟩, ⟨nb0, nb1, nb2⟩⟩
      | (have t := CAh.out.keep hb5 (by omega); have u := CBh.out.keep hb5 (by omega); exact ⟨⟨t.1, t.2.1, t.2.2⟩, ⟨u.1, u.2.1, u.2.2⟩⟩)
      | (have t := CAh.out.keep hb4 (by omega); have u := CBh.out.keep hb4 (by omega); exact ⟨⟨t.1, t.2.1, t.2.2⟩, ⟨u.1, u.2.1, u.2.2⟩⟩)
      | (have t := CAh.out.keep (undrew hbA) (by omega); have u := CBh.out.keep (undrew hbA) (by omega); exact ⟨⟨t.1, t.2.1, t.2.2⟩, ⟨u.1, u.2.1, u.2.2⟩⟩)
      | go_keep)
    (first
      | (go_at_call 42; (with_reducible refine (D1.out _).mono ?_); rintro e wA ⟨rfl, hbA⟩)
      | (go_at_call 42; (with_reducible refine (D2.out _).mono ?_); rintro e wB ⟨rfl, hbB⟩
         have hb4 : Below W2.heap.size W2 wB := (undrew hbA).trans (hbB.mono (undrew hbA).size))
      | (go_at_call 70; (with_reducible refine (DF.out _ _ ?_).mono ?_); (focus rfl); rintro e wC ⟨rfl, hbC⟩
         have hb5 : Below W2.heap.size W2 wC := hb4.trans (hbC.mono hb4.size)))
  have CA := CAh.out.keep hb5 (by omega)
  have CB := CBh.out.keep hb5 (by omega)


  have hz3 : w.heap.size + 2 ≤ wC.heap.size := by have := hb5.size; omega
  have B3 := Lib.hid (B2.out.trans (hb5.mono B2.out.size))
  clear hb4 hb5 hbC hbA hbB na0 na1 na2 nb0 nb1 nb2 CAh CBh B2
  have CAh := Lib.hid CA
  have CBh := Lib.hid CB
  obtain ⟨na0, na1, na2⟩ := CA
  obtain ⟨nb0, nb1, nb2⟩ := CB
  go_wp2_with fail
  go_region_held3 (fun w' => (w'.cell? ⟨w.heap.size, 0, none⟩ = some (.bool a.neg) ∧ w'.cell? ⟨w.heap.size, 1, none⟩ = some (.string (dStr a.i)) ∧ w'.cell? ⟨w.heap.size, 2, none⟩ = some (.string (dStr a.f))) ∧ (w'.cell? ⟨w.heap.size + 1, 0, none⟩ = some (.bool b.neg) ∧ w'.cell? ⟨w.heap.size + 1, 1, none⟩ = some (.string (dStr b.i)) ∧ w'.cell? ⟨w.heap.size + 1, 2, none⟩ = some (.string (dStr b.f))))
    (first
      | exact ⟨⟨na0, na1, na2⟩, ⟨nb0, nb1, nb2⟩⟩
      | (have t := CAh.out.keep hb5 (by omega); have u := CBh.out.keep hb5 (by omega); exact ⟨⟨t.1, t.2.1, t.2.2⟩, ⟨u.1, u.2.1, u.2.2⟩⟩)
      | (have t := CAh.out.keep hb4 (by omega); have u := CBh.out.keep hb4 (by omega); exact ⟨⟨t.1, t.2.1, t.2.2⟩, ⟨u.1, u.2.1, u.2.2⟩⟩)
      | (have t := CAh.out.keep (undrew hbA) (by omega); have u := CBh.out.keep (undrew hbA) (by omega); exact ⟨⟨t.1, t.2.1, t.2.2⟩, ⟨u.1, u.2.1, u.2.2⟩⟩)
      | go_keep)
    (first
      | (go_at_call 107; (with_reducible refine (DA.out _).mono ?_); rintro e wA ⟨rfl, hbA⟩)
      | (go_at_call 107; (with_reducible refine (DB.out _).mono ?_); rintro e wB ⟨rfl, hbB⟩
         have hb4 : Below wC.heap.size wC wB := (undrew hbA).trans (hbB.mono (undrew hbA).size))
      | (go_at_call 44; (with_reducible refine (DC.out _).mono ?_); rintro e wD ⟨rfl, rfl⟩))
  obtain ⟨na0, na1, na2⟩ := CAh.out.keep hb4 (by omega)
  obtain ⟨nb0, nb1, nb2⟩ := CBh.out.keep hb4 (by omega)
  have B5 := Lib.hid (B3.out.trans (hb4.mono B3.out.size))
  clear hb4
  generalize a.neg = an at *
  generalize b.neg = bn at *
  cases an <;> cases bn
  all_goals
    go_wp2
    exact bodyPost_ret (v := .tuple #[.int .i64 res, .int .i64 0]) (by rw [CF.out]; simp [results, Tryd.results66, go_sem]) rfl ⟨rfl, B5.out⟩
end Go.Proofs.YtpbljcjghjbjdaaDoor
