/- The reference's sum: signs that part. -/
import Derived.Test.YtmaljkjcibdbgaaDRefDiv
import Derived.Test.YtmaljkjcibdbgaaDRefPlus
namespace Go.Proofs.Ytmaljkjcibdbgaa
open Go.RowKit
attribute [local go_sem ↓] Go.wp_at_zero Go.wp_at_succ

set_option maxHeartbeats 4000000 in
set_option maxRecDepth 100000 in
theorem refSum_first (a b : Dc) (less ng : Bool) (s : Nat) (w : World) (o : Option Dc) (hs : s = (max a.f.length b.f.length)) (ha : a.Ok) (hb : b.Ok) (hg : (b.neg == less) = !ng) (hn : a.neg ≠ ng) (hle : b.raised s ≤ a.raised s) (ho : mkN a.neg (a.raised s - b.raised s) s = o) :
    Calls Try.prog 58 #[.agg #[.bool a.neg, .string (dStr a.i), .string (dStr a.f)], .agg #[.bool b.neg, .string (dStr b.i), .string (dStr b.f)], .bool less] w fun r w' => r = .returned (.tuple #[.agg #[.bool (oN o), .string (oI o), .string (oF o)], .int .i64 (oE o)]) ∧ Below w.heap.size w w' := by
  have D1 := Lib.hid (fun wx => refCheck_ok a wx ha)
  have D2 := Lib.hid (fun wx => refCheck_ok b wx hb)
  have DF := Lib.hid (first_fresh 0 0 0 rfl)
  have s1 : a.f.length ≤ s := by omega
  have s2 : b.f.length ≤ s := by omega
  have s3 : s ≤ 40 := by have := ha.most; have := hb.most; omega
  have R1 := (digs_le (a.raised s) (40 + s) (by omega)).2 (raised_lt a 40 s ha.fm (by have := ha.most; omega) s1)
  have R2 := (digs_le (b.raised s) (40 + s) (by omega)).2 (raised_lt b 40 s hb.fm (by have := hb.most; omega) s2)
  have DA := Lib.hid (fun wx => refRaised_any a s wx ha s1 (by omega))
  have DB := Lib.hid (fun wx => refRaised_any b s wx hb s2 (by omega))
  have sfa : (dStr a.f).size = a.f.length := dStr_size a.f
  have sfb : (dStr b.f).size = b.f.length := dStr_size b.f
  have qs : (if a.f.length < b.f.length then (b.f.length : Int) else (a.f.length : Int)) = (s : Int) := by rw [hs]; split <;> omega
  have X1 := raised_lt a 40 s ha.fm (by have := ha.most; omega) s1
  have X2 := raised_lt b 40 s hb.fm (by have := hb.most; omega) s2
  have LV : (digs (a.raised s - b.raised s)).length ≤ 100 := by
    have := (digs_le (a.raised s - b.raised s) (40 + s + 1) (by omega)).2 (Nat.lt_of_le_of_lt (Nat.sub_le _ _) (Nat.lt_of_lt_of_le X1 (Nat.pow_le_pow_right (by omega) (by omega))))
    omega
  have DP := Lib.hid (fun wx => refMinus_any (a.raised s) (b.raised s) wx hle (by omega) (by omega))
  have qa : (a.neg == ng) = false := by simpa using hn
  have DM : Hid (∀ (wx : World), Calls Try.prog 62 #[.bool a.neg, .string (dStr (digs (a.raised s - b.raised s))), .int .i64 (s : Int)] wx fun r w' => r = .returned (.tuple #[.agg #[.bool (oN o), .string (oI o), .string (oF o)], .int .i64 (oE o)]) ∧ Below wx.heap.size wx w') :=
    fun wx => refMake_any a.neg (digs (a.raised s - b.raised s)) s wx o (by rw [dVal_digs]; exact ho) (digs_digs _) (by omega) (by omega)
  have DC := Lib.hid (fun wx => refCmp_any (a.raised s) (b.raised s) wx (by omega) (by omega))
  have qk : decide (0 ≤ cmpN (a.raised s) (b.raised s)) = true := decide_eq_true (by unfold cmpN; repeat' split; all_goals omega)
  generalize cmpN (a.raised s) (b.raised s) = kk at *
  generalize hval : (a.raised s - b.raised s) = vv at *
  generalize hra : a.raised s = ra at *
  generalize hrb : b.raised s = rb at *
  clear ha hb hs s1 s2 s3 R1 R2 X1 X2 LV hn ho hval hra hrb hle
  go_enter Try.func58, Try.ntmps58
  go_wp2_with fail
  obtain ⟨W2, hW2⟩ : ∃ W2, W2 = ((w.alloc (.cells #[.bool a.neg, .string (dStr a.i), .string (dStr a.f)] 23)).alloc (.cells #[.bool b.neg, .string (dStr b.i), .string (dStr b.f)] 23)).alloc (.cells #[.bool false, .string ⟨#[]⟩, .string ⟨#[]⟩] 23) := ⟨_, rfl⟩
  obtain ⟨hb2, hz2, CA, CB, CR, FR⟩ : Below w.heap.size w W2 ∧ w.heap.size + 3 ≤ W2.heap.size ∧ Cells3 W2 w.heap.size (.bool a.neg) (.string (dStr a.i)) (.string (dStr a.f)) ∧ Cells3 W2 (w.heap.size + 1) (.bool b.neg) (.string (dStr b.i)) (.string (dStr b.f)) ∧ Cells3 W2 (w.heap.size + 2) (.bool false) (.string ⟨#[]⟩) (.string ⟨#[]⟩) ∧ ∀ i, W2.frozen? ⟨w.heap.size + 2, i, none⟩ = false := by rw [hW2]; exact ⟨below_three w _ _ _, three_boxes w _ _ _ _ _ _ _ _ _ _⟩
  rw [← hW2]
  clear hW2
  have CAh := Lib.hid CA
  have CBh := Lib.hid CB
  obtain ⟨na0, na1, na2⟩ := CA
  obtain ⟨nb0, nb1, nb2⟩ := CB
  have B2 := Lib.hid hb2
  clear hb2
  go_region_held3 (fun w' => (w'.cell? ⟨w.heap.size, 0, none⟩ = some (.bool a.neg) ∧ w'.cell? ⟨w.heap.size, 1, none⟩ = some (.string (dStr a.i)) ∧ w'.cell? ⟨w.heap.size, 2, none⟩ = some (.string (dStr a.f))) ∧ (w'.cell? ⟨w.heap.size + 1, 0, none⟩ = some (.bool b.neg) ∧ w'.cell? ⟨w.heap.size + 1, 1, none⟩ = some (.string (dStr b.i)) ∧ w'.cell? ⟨w.heap.size + 1, 2, none⟩ = some (.string (dStr b.f))))
    (first
      | exact ⟨⟨na0, na1, na2⟩, ⟨nb0, nb1, nb2⟩⟩
      | (have t := CAh.out.keep hb5 (by omega); have u := CBh.out.keep hb5 (by omega); exact ⟨⟨t.1, t.2.1, t.2.2⟩, ⟨u.1, u.2.1, u.2.2⟩⟩)
      | (have t := CAh.out.keep hb4 (by omega); have u := CBh.out.keep hb4 (by omega); exact ⟨⟨t.1, t.2.1, t.2.2⟩, ⟨u.1, u.2.1, u.2.2⟩⟩)
      | (have t := CAh.out.keep (undrew hbA) (by omega); have u := CBh.out.keep (undrew hbA) (by omega); exact ⟨⟨t.1, t.2.1, t.2.2⟩, ⟨u.1, u.2.1, u.2.2⟩⟩)
      | go_keep)
    (first
      | (go_at_call 54; (with_reducible refine (D1.out _).mono ?_); rintro e wA ⟨rfl, hbA⟩)
      | (go_at_call 54; (with_reducible refine (D2.out _).mono ?_); rintro e wB ⟨rfl, hbB⟩
         have hb4 : Below W2.heap.size W2 wB := (undrew hbA).trans (hbB.mono (undrew hbA).size))
      | (go_at_call 53; (with_reducible refine (DF.out _ _ ?_).mono ?_); (focus rfl); rintro e wC ⟨rfl, hbC⟩
         have hb5 : Below W2.heap.size W2 wC := hb4.trans (hbC.mono hb4.size)))
  have CA := CAh.out.keep hb5 (by omega)
  have CB := CBh.out.keep hb5 (by omega)
  have CR := Lib.hid (CR.keep hb5 (by omega))
  have FR := Lib.hid (frozen_keep FR hb5 (by omega))
  have hz3 : w.heap.size + 3 ≤ wC.heap.size := by have := hb5.size; omega
  have B3 := Lib.hid (B2.out.trans (hb5.mono B2.out.size))
  clear hb4 hb5 hbC hbA hbB na0 na1 na2 nb0 nb1 nb2 CAh CBh B2
  have CAh := Lib.hid CA
  have CBh := Lib.hid CB
  obtain ⟨na0, na1, na2⟩ := CA
  obtain ⟨nb0, nb1, nb2⟩ := CB
  go_wp2_with fail
  go_region_held3 (fun w' => (w'.cell? ⟨w.heap.size, 0, none⟩ = some (.bool a.neg) ∧ w'.cell? ⟨w.heap.size, 1, none⟩ = some (.string (dStr a.i)) ∧ w'.cell? ⟨w.heap.size, 2, none⟩ = some (.string (dStr a.f))) ∧ (w'.cell? ⟨w.heap.size + 1, 0, none⟩ = some (.bool b.neg) ∧ w'.cell? ⟨w.heap.size + 1, 1, none⟩ = some (.string (dStr b.i)) ∧ w'.cell? ⟨w.heap.size + 1, 2, none⟩ = some (.string (dStr b.f))))
    (first
      | exact ⟨⟨na0, na1, na2⟩, ⟨nb0, nb1, nb2⟩⟩
      | (have t := CAh.out.keep hb5 (by omega); have u := CBh.out.keep hb5 (by omega); exact ⟨⟨t.1, t.2.1, t.2.2⟩, ⟨u.1, u.2.1, u.2.2⟩⟩)
      | (have t := CAh.out.keep hb4 (by omega); have u := CBh.out.keep hb4 (by omega); exact ⟨⟨t.1, t.2.1, t.2.2⟩, ⟨u.1, u.2.1, u.2.2⟩⟩)
      | (have t := CAh.out.keep (undrew hbA) (by omega); have u := CBh.out.keep (undrew hbA) (by omega); exact ⟨⟨t.1, t.2.1, t.2.2⟩, ⟨u.1, u.2.1, u.2.2⟩⟩)
      | go_keep)
    (first
      | (go_at_call 56; (with_reducible refine (DA.out _).mono ?_); rintro e wA ⟨rfl, hbA⟩)
      | (go_at_call 56; (with_reducible refine (DB.out _).mono ?_); rintro e wB ⟨rfl, hbB⟩
         have hb4 : Below wC.heap.size wC wB := (undrew hbA).trans (hbB.mono (undrew hbA).size)))
  obtain ⟨na0, na1, na2⟩ := CAh.out.keep hb4 (by omega)
  obtain ⟨nb0, nb1, nb2⟩ := CBh.out.keep hb4 (by omega)
  have CR5 := Lib.hid (CR.out.keep hb4 (by omega))
  have FR5 := Lib.hid (frozen_keep FR.out hb4 (by omega))
  have hz5 : w.heap.size + 3 ≤ wB.heap.size := by have := hb4.size; omega
  have B5 := Lib.hid (B3.out.trans (hb4.mono B3.out.size))
  clear hb4
  go_wp2_with fail
  (with_reducible refine (DC.out _).mono ?_)
  rintro e wE ⟨rfl, rfl⟩
  go_wp2_with fail
  go_region_held3 (fun w' => w'.cell? ⟨w.heap.size, 0, none⟩ = some (.bool a.neg))
    (first | exact na0 | exact (hb9.cell (p := ⟨w.heap.size, 0, none⟩) (by show w.heap.size < wB.heap.size; omega)).trans na0 | exact ((undrew hbF).cell (p := ⟨w.heap.size, 0, none⟩) (by show w.heap.size < wB.heap.size; omega)).trans na0 | exact (far3 _ _ _ _ _ _ _ (by omega)).trans ((hb9.cell (p := ⟨w.heap.size, 0, none⟩) (by show w.heap.size < wB.heap.size; omega)).trans na0) | go_keep)
    (first
      | (go_at_call 93; (with_reducible refine (DP.out _).mono ?_); rintro e wF ⟨rfl, hbF⟩)
      | (go_at_call 62; (with_reducible refine (DM.out _).mono ?_); rintro e wG ⟨rfl, hbG⟩
         have hb9 : Below wB.heap.size wB wG := (undrew hbF).trans (hbG.mono (undrew hbF).size)
         obtain ⟨r0, r1, r2⟩ := CR5.out.keep hb9 (by omega)
         have z0 := frozen_keep FR5.out hb9 (by omega)
         have B7 := Lib.hid (B5.out.trans (hb9.mono B5.out.size))))
  obtain ⟨e0, e1, e2⟩ := res_cells r0 r1 r2 (.bool (oN o)) (.string (oI o)) (.string (oF o))
  go_wp2
  exact bodyPost_ret (v := .tuple #[.agg #[.bool (oN o), .string (oI o), .string (oF o)], .int .i64 (oE o)]) (by simp [results, Try.results58, go_sem, e0, e1, e2]) rfl ⟨rfl, res_below B7.out (by omega) _ _ _⟩

set_option maxHeartbeats 4000000 in
set_option maxRecDepth 100000 in
theorem refSum_second (a b : Dc) (less ng : Bool) (s : Nat) (w : World) (o : Option Dc) (hs : s = (max a.f.length b.f.length)) (ha : a.Ok) (hb : b.Ok) (hg : (b.neg == less) = !ng) (hn : a.neg ≠ ng) (hle : a.raised s < b.raised s) (ho : mkN ng (b.raised s - a.raised s) s = o) :
    Calls Try.prog 58 #[.agg #[.bool a.neg, .string (dStr a.i), .string (dStr a.f)], .agg #[.bool b.neg, .string (dStr b.i), .string (dStr b.f)], .bool less] w fun r w' => r = .returned (.tuple #[.agg #[.bool (oN o), .string (oI o), .string (oF o)], .int .i64 (oE o)]) ∧ Below w.heap.size w w' := by
  have D1 := Lib.hid (fun wx => refCheck_ok a wx ha)
  have D2 := Lib.hid (fun wx => refCheck_ok b wx hb)
  have DF := Lib.hid (first_fresh 0 0 0 rfl)
  have s1 : a.f.length ≤ s := by omega
  have s2 : b.f.length ≤ s := by omega
  have s3 : s ≤ 40 := by have := ha.most; have := hb.most; omega
  have R1 := (digs_le (a.raised s) (40 + s) (by omega)).2 (raised_lt a 40 s ha.fm (by have := ha.most; omega) s1)
  have R2 := (digs_le (b.raised s) (40 + s) (by omega)).2 (raised_lt b 40 s hb.fm (by have := hb.most; omega) s2)
  have DA := Lib.hid (fun wx => refRaised_any a s wx ha s1 (by omega))
  have DB := Lib.hid (fun wx => refRaised_any b s wx hb s2 (by omega))
  have sfa : (dStr a.f).size = a.f.length := dStr_size a.f
  have sfb : (dStr b.f).size = b.f.length := dStr_size b.f
  have qs : (if a.f.length < b.f.length then (b.f.length : Int) else (a.f.length : Int)) = (s : Int) := by rw [hs]; split <;> omega
  have X1 := raised_lt a 40 s ha.fm (by have := ha.most; omega) s1
  have X2 := raised_lt b 40 s hb.fm (by have := hb.most; omega) s2
  have LV : (digs (b.raised s - a.raised s)).length ≤ 100 := by
    have := (digs_le (b.raised s - a.raised s) (40 + s + 1) (by omega)).2 (Nat.lt_of_le_of_lt (Nat.sub_le _ _) (Nat.lt_of_lt_of_le X2 (Nat.pow_le_pow_right (by omega) (by omega))))
    omega
  have DP := Lib.hid (fun wx => refMinus_any (b.raised s) (a.raised s) wx (Nat.le_of_lt hle) (by omega) (by omega))
  have qa : (a.neg == ng) = false := by simpa using hn
  have DM : Hid (∀ (wx : World), Calls Try.prog 62 #[.bool ng, .string (dStr (digs (b.raised s - a.raised s))), .int .i64 (s : Int)] wx fun r w' => r = .returned (.tuple #[.agg #[.bool (oN o), .string (oI o), .string (oF o)], .int .i64 (oE o)]) ∧ Below wx.heap.size wx w') :=
    fun wx => refMake_any ng (digs (b.raised s - a.raised s)) s wx o (by rw [dVal_digs]; exact ho) (digs_digs _) (by omega) (by omega)
  have DC := Lib.hid (fun wx => refCmp_any (a.raised s) (b.raised s) wx (by omega) (by omega))
  have qk : decide (0 ≤ cmpN (a.raised s) (b.raised s)) = false := decide_eq_false (by unfold cmpN; repeat' split; all_goals omega)
  generalize cmpN (a.raised s) (b.raised s) = kk at *
  generalize hval : (b.raised s - a.raised s) = vv at *
  generalize hra : a.raised s = ra at *
  generalize hrb : b.raised s = rb at *
  clear ha hb hs s1 s2 s3 R1 R2 X1 X2 LV hn ho hval hra hrb hle
  go_enter Try.func58, Try.ntmps58
  go_wp2_with fail
  obtain ⟨W2, hW2⟩ : ∃ W2, W2 = ((w.alloc (.cells #[.bool a.neg, .string (dStr a.i), .string (dStr a.f)] 23)).alloc (.cells #[.bool b.neg, .string (dStr b.i), .string (dStr b.f)] 23)).alloc (.cells #[.bool false, .string ⟨#[]⟩, .string ⟨#[]⟩] 23) := ⟨_, rfl⟩
  obtain ⟨hb2, hz2, CA, CB, CR, FR⟩ : Below w.heap.size w W2 ∧ w.heap.size + 3 ≤ W2.heap.size ∧ Cells3 W2 w.heap.size (.bool a.neg) (.string (dStr a.i)) (.string (dStr a.f)) ∧ Cells3 W2 (w.heap.size + 1) (.bool b.neg) (.string (dStr b.i)) (.string (dStr b.f)) ∧ Cells3 W2 (w.heap.size + 2) (.bool false) (.string ⟨#[]⟩) (.string ⟨#[]⟩) ∧ ∀ i, W2.frozen? ⟨w.heap.size + 2, i, none⟩ = false := by rw [hW2]; exact ⟨below_three w _ _ _, three_boxes w _ _ _ _ _ _ _ _ _ _⟩
  rw [← hW2]
  clear hW2
  have CAh := Lib.hid CA
  have CBh := Lib.hid CB
  obtain ⟨na0, na1, na2⟩ := CA
  obtain ⟨nb0, nb1, nb2⟩ := CB
  have B2 := Lib.hid hb2
  clear hb2
  go_region_held3 (fun w' => (w'.cell? ⟨w.heap.size, 0, none⟩ = some (.bool a.neg) ∧ w'.cell? ⟨w.heap.size, 1, none⟩ = some (.string (dStr a.i)) ∧ w'.cell? ⟨w.heap.size, 2, none⟩ = some (.string (dStr a.f))) ∧ (w'.cell? ⟨w.heap.size + 1, 0, none⟩ = some (.bool b.neg) ∧ w'.cell? ⟨w.heap.size + 1, 1, none⟩ = some (.string (dStr b.i)) ∧ w'.cell? ⟨w.heap.size + 1, 2, none⟩ = some (.string (dStr b.f))))
    (first
      | exact ⟨⟨na0, na1, na2⟩, ⟨nb0, nb1, nb2⟩⟩
      | (have t := CAh.out.keep hb5 (by omega); have u := CBh.out.keep hb5 (by omega); exact ⟨⟨t.1, t.2.1, t.2.2⟩, ⟨u.1, u.2.1, u.2.2⟩⟩)
      | (have t := CAh.out.keep hb4 (by omega); have u := CBh.out.keep hb4 (by omega); exact ⟨⟨t.1, t.2.1, t.2.2⟩, ⟨u.1, u.2.1, u.2.2⟩⟩)
      | (have t := CAh.out.keep (undrew hbA) (by omega); have u := CBh.out.keep (undrew hbA) (by omega); exact ⟨⟨t.1, t.2.1, t.2.2⟩, ⟨u.1, u.2.1, u.2.2⟩⟩)
      | go_keep)
    (first
      | (go_at_call 54; (with_reducible refine (D1.out _).mono ?_); rintro e wA ⟨rfl, hbA⟩)
      | (go_at_call 54; (with_reducible refine (D2.out _).mono ?_); rintro e wB ⟨rfl, hbB⟩
         have hb4 : Below W2.heap.size W2 wB := (undrew hbA).trans (hbB.mono (undrew hbA).size))
      | (go_at_call 53; (with_reducible refine (DF.out _ _ ?_).mono ?_); (focus rfl); rintro e wC ⟨rfl, hbC⟩
         have hb5 : Below W2.heap.size W2 wC := hb4.trans (hbC.mono hb4.size)))
  have CA := CAh.out.keep hb5 (by omega)
  have CB := CBh.out.keep hb5 (by omega)
  have CR := Lib.hid (CR.keep hb5 (by omega))
  have FR := Lib.hid (frozen_keep FR hb5 (by omega))
  have hz3 : w.heap.size + 3 ≤ wC.heap.size := by have := hb5.size; omega
  have B3 := Lib.hid (B2.out.trans (hb5.mono B2.out.size))
  clear hb4 hb5 hbC hbA hbB na0 na1 na2 nb0 nb1 nb2 CAh CBh B2
  have CAh := Lib.hid CA
  have CBh := Lib.hid CB
  obtain ⟨na0, na1, na2⟩ := CA
  obtain ⟨nb0, nb1, nb2⟩ := CB
  go_wp2_with fail
  go_region_held3 (fun w' => (w'.cell? ⟨w.heap.size, 0, none⟩ = some (.bool a.neg) ∧ w'.cell? ⟨w.heap.size, 1, none⟩ = some (.string (dStr a.i)) ∧ w'.cell? ⟨w.heap.size, 2, none⟩ = some (.string (dStr a.f))) ∧ (w'.cell? ⟨w.heap.size + 1, 0, none⟩ = some (.bool b.neg) ∧ w'.cell? ⟨w.heap.size + 1, 1, none⟩ = some (.string (dStr b.i)) ∧ w'.cell? ⟨w.heap.size + 1, 2, none⟩ = some (.string (dStr b.f))))
    (first
      | exact ⟨⟨na0, na1, na2⟩, ⟨nb0, nb1, nb2⟩⟩
      | (have t := CAh.out.keep hb5 (by omega); have u := CBh.out.keep hb5 (by omega); exact ⟨⟨t.1, t.2.1, t.2.2⟩, ⟨u.1, u.2.1, u.2.2⟩⟩)
      | (have t := CAh.out.keep hb4 (by omega); have u := CBh.out.keep hb4 (by omega); exact ⟨⟨t.1, t.2.1, t.2.2⟩, ⟨u.1, u.2.1, u.2.2⟩⟩)
      | (have t := CAh.out.keep (undrew hbA) (by omega); have u := CBh.out.keep (undrew hbA) (by omega); exact ⟨⟨t.1, t.2.1, t.2.2⟩, ⟨u.1, u.2.1, u.2.2⟩⟩)
      | go_keep)
    (first
      | (go_at_call 56; (with_reducible refine (DA.out _).mono ?_); rintro e wA ⟨rfl, hbA⟩)
      | (go_at_call 56; (with_reducible refine (DB.out _).mono ?_); rintro e wB ⟨rfl, hbB⟩
         have hb4 : Below wC.heap.size wC wB := (undrew hbA).trans (hbB.mono (undrew hbA).size)))
  obtain ⟨na0, na1, na2⟩ := CAh.out.keep hb4 (by omega)
  obtain ⟨nb0, nb1, nb2⟩ := CBh.out.keep hb4 (by omega)
  have CR5 := Lib.hid (CR.out.keep hb4 (by omega))
  have FR5 := Lib.hid (frozen_keep FR.out hb4 (by omega))
  have hz5 : w.heap.size + 3 ≤ wB.heap.size := by have := hb4.size; omega
  have B5 := Lib.hid (B3.out.trans (hb4.mono B3.out.size))
  clear hb4
  go_wp2_with fail
  (with_reducible refine (DC.out _).mono ?_)
  rintro e wE ⟨rfl, rfl⟩
  go_wp2_with fail
  (with_reducible refine (DP.out _).mono ?_)
  rintro e wF ⟨rfl, hbF⟩
  have CR6 := Lib.hid (CR5.out.keep hbF (by omega))
  have FR6 := Lib.hid (frozen_keep FR5.out hbF (by omega))
  have hz6 : w.heap.size + 3 ≤ wF.heap.size := by have := hbF.size; omega
  have B6 := Lib.hid (B5.out.trans (hbF.mono B5.out.size))
  clear hbF
  go_wp2_with fail
  (with_reducible refine (DM.out _).mono ?_)
  rintro e wG ⟨rfl, hbG⟩
  obtain ⟨r0, r1, r2⟩ := CR6.out.keep hbG (by omega)
  have z0 := frozen_keep FR6.out hbG (by omega)
  have B7 := Lib.hid (B6.out.trans (hbG.mono B6.out.size))
  obtain ⟨e0, e1, e2⟩ := res_cells r0 r1 r2 (.bool (oN o)) (.string (oI o)) (.string (oF o))
  go_wp2
  exact bodyPost_ret (v := .tuple #[.agg #[.bool (oN o), .string (oI o), .string (oF o)], .int .i64 (oE o)]) (by simp [results, Try.results58, go_sem, e0, e1, e2]) rfl ⟨rfl, res_below B7.out (by omega) _ _ _⟩
end Go.Proofs.Ytmaljkjcibdbgaa
