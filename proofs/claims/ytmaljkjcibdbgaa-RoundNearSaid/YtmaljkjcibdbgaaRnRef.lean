/- The reference's Plus, Compare, sum, Add and Sub of layer 2, in one text. -/
import Derived.Test.YtmaljkjcibdbgaaDRefMinus
import Derived.Test.YtmaljkjcibdbgaaDRefCmp
import Derived.Test.YtmaljkjcibdbgaaDRefRaised
import Derived.Test.YtmaljkjcibdbgaaDRefMake
import Derived.Test.YtmaljkjcibdbgaaDRef1
namespace Go.Proofs.Ytmaljkjcibdbgaa
open Go.RowKit
attribute [local go_sem ↓] Go.wp_at_zero Go.wp_at_succ

theorem first_fresh (c1 c2 e : Int) (h : firstE c1 c2 = e) (g : Nat) (wx : World) (hg : g = wx.heap.size) : Calls Try.prog 53 #[.slice (some ⟨g, 0, none⟩) 2 2] (wx.alloc (.cells #[.int .i64 c1, .int .i64 c2] 24)) fun r w' => r = .returned (.int .i64 e) ∧ Below wx.heap.size wx w' := by
  subst hg
  refine (refFirst_two c1 c2 wx.heap.size _ _ _ (heap_alloc_new wx _)).mono ?_
  rintro r w' ⟨rfl, rfl⟩
  exact ⟨by rw [h], (Below.refl _ _).alloc (Nat.le_refl _) _⟩



set_option maxHeartbeats 4000000 in
set_option maxRecDepth 100000 in
theorem refPlus_any (x y : Nat) (w : World) (hx : (digs x).length ≤ 100000) (hy : (digs y).length ≤ 100000) :
    Calls Try.prog 92 #[.string (dStr (digs x)), .string (dStr (digs y))] w fun r w' => r = .returned (.string (dStr (digs (x + y)))) ∧ Below w.heap.size w w' := by
  have DA := Lib.hid (fun i wx (hi : i ≤ 1000000) => refAt_any (digs x) i wx (digs_digs x) (by omega) hi)
  have DB := Lib.hid (fun i wx (hi : i ≤ 1000000) => refAt_any (digs y) i wx (digs_digs y) (by omega) hi)
  have L1 := digs_len x
  have HA := Lib.hid (digs_digs x).reverse
  have HB := Lib.hid (digs_digs y).reverse
  have RA := Lib.hid (rev_rval x)
  have RB := Lib.hid (rev_rval y)
  obtain ⟨n, hn⟩ : ∃ n, n = (digs x).length := ⟨_, rfl⟩
  obtain ⟨m, hm⟩ : ∃ m, m = (digs y).length := ⟨_, rfl⟩
  have LA : Hid ((digs x).reverse.length = n) := by show _ = _; rw [List.length_reverse, hn]
  have LB : Hid ((digs y).reverse.length = m) := by show _ = _; rw [List.length_reverse, hm]
  obtain ⟨S, hS⟩ : ∃ S, S = dStr (digs x) := ⟨_, rfl⟩
  obtain ⟨T, hT⟩ : ∃ T, T = dStr (digs y) := ⟨_, rfl⟩
  have hz : S.size = n := by rw [hS, dStr_size, hn]
  have hz2 : T.size = m := by rw [hT, dStr_size, hm]
  obtain ⟨M, hM1, hM2, hM3, hM4⟩ : ∃ M, n ≤ M ∧ m ≤ M ∧ M ≤ 100000 ∧ (if n < m then (m : Int) else (n : Int)) = (M : Int) := ⟨max n m, by omega, by omega, by omega, by split <;> omega⟩
  have DT : Hid (∀ (v : Value) (ds : List Nat) (k : Nat) (wx : World), Row w.heap.size v (dB ds) wx → Digs ds → ds.length = k → 1 ≤ k → k ≤ 1000000 → rVal ds = x + y → Calls Try.prog 104 #[v] wx fun r w' => r = .returned (.string (dStr (digs (x + y)))) ∧ Below wx.heap.size wx w') := by
    intro v ds k wx h1 h2 h3 h5 h6 h4
    have := refTurned_any v ds _ k wx h1 h2 h3 h5 h6
    rw [h4] at this
    exact this
  rw [← hS] at DA
  rw [← hT] at DB
  rw [← hn] at hx L1
  rw [← hS, ← hT]
  clear hS hT hn hm hy
  generalize (digs x).reverse = la at *
  generalize (digs y).reverse = lb at *
  go_enter Try.func92, Try.ntmps92
  go_wp2
  go_loopw [5, 6, 7] (fun v cv iv wr => ∃ (k c : Nat) (ds : List Nat), iv = .int .i64 (k : Int) ∧ cv = .int .i64 (c : Int) ∧ c ≤ 1 ∧ (k ≤ M ∨ k = M + 1 ∧ c = 0) ∧ Digs ds ∧ ds.length = k ∧ rVal ds + 10 ^ k * c = rVal (la.take k) + rVal (lb.take k) ∧ Row w.heap.size v (dB ds) wr ∧ Below w.heap.size w wr) (fun _ _ iv _ => M + 1 - (intOf iv).toNat)
  case atStart => exact ⟨0, 0, [], rfl, rfl, by omega, by omega, Digs.nil, rfl, by simp [rVal], Row.nil _ _, Below.refl _ _⟩
  case round =>
    obtain ⟨k, c, ds, rfl, rfl, hc, hk, hds, hlds, hE, hR, hbw⟩ := hrel
    have HDS := Lib.hid hds
    have HLD := Lib.hid hlds
    have HE := Lib.hid hE
    have HR := Lib.hid hR
    have HW := Lib.hid hbw
    have HK := Lib.hid hk
    have hk2 : k ≤ M + 1 := by omega
    clear hds hlds hE hR hbw hk
    by_cases hlt : k < M ∨ 0 < c
    · have DA2 := Lib.hid (fun wx => DA.out k wx (by omega))
      have DB2 := Lib.hid (fun wx => DB.out k wx (by omega))
      have hu := rAt_lt HA.out k
      have hv := rAt_lt HB.out k
      have HO : Hid (M ≤ k → rAt la k = 0 ∧ rAt lb k = 0) := fun h => by
        have h1 := LA.out
        have h2 := LB.out
        unfold rAt
        rw [List.getD_eq_getElem?_getD, List.getElem?_eq_none (by omega), List.getD_eq_getElem?_getD, List.getElem?_eq_none (by omega)]
        exact ⟨rfl, rfl⟩
      have ST := Lib.hid (fun x' y' h1 h2 => plus_step (x := x') (y := y') HE.out HLD.out h1 h2)
      generalize hu' : rAt la k = a at *
      generalize hv' : rAt lb k = b at *
      clear hu' hv'
      obtain ⟨t, ht⟩ : ∃ t, t = a + b + c := ⟨_, rfl⟩
      obtain ⟨z, hz0⟩ : ∃ z, z = t % 10 := ⟨_, rfl⟩
      obtain ⟨y', hy0⟩ : ∃ y', y' = t / 10 := ⟨_, rfl⟩
      have hz9 : z < 10 := by omega
      have ht19 : t ≤ 19 := by omega
      have hy1 : y' ≤ 1 := by omega
      have HKN : Hid (k + 1 ≤ M ∨ k + 1 = M + 1 ∧ y' = 0) := by
        have h1 := HK.out
        have h2 := HO.out
        rcases Nat.lt_or_ge k M with h | h
        · exact .inl h
        · obtain ⟨h3, h4⟩ := h2 h
          exact .inr (by omega)
      have e1 : IntKind.i64.wrap ((a : Int) + (b : Int)) = (a : Int) + (b : Int) := IntWalk.i64_in _ (by omega)
      have e2 : IntKind.i64.wrap ((a : Int) + (b : Int) + (c : Int)) = (t : Int) := by rw [IntWalk.i64_in _ (by omega)]; omega
      have e3 : (t : Int).tmod 10 = (z : Int) := by rw [Int.tmod_eq_emod_of_nonneg (by omega)]; omega
      have e6 : (t : Int).tdiv 10 = (y' : Int) := by rw [Int.tdiv_eq_ediv_of_nonneg (by omega)]; omega
      have e7 : IntKind.i64.wrap (z : Int) = (z : Int) := IntWalk.i64_in _ (by omega)
      have e8 : IntKind.i64.wrap (y' : Int) = (y' : Int) := IntWalk.i64_in _ (by omega)
      have e4 : IntKind.i64.wrap (48 + (z : Int)) = 48 + (z : Int) := IntWalk.i64_in _ (by omega)
      have e5 : IntKind.u8.wrap (48 + (z : Int)) = 48 + (z : Int) := IntWalk.u8_in _ ⟨by omega, by omega⟩
      have ST2 : Hid (rVal (ds ++ [z]) + 10 ^ (k + 1) * y' = rVal (la.take (k + 1)) + rVal (lb.take (k + 1))) := by have := ST.out t y' ht hy0; rw [← hz0] at this; exact this
      clear ht hz0 hy0 ST HO
      obtain ⟨nb, hnb⟩ : ∃ nb, nb = [(48 + z).toUInt8] := ⟨_, rfl⟩
      have BC : Hid (Lib.byteCells nb = [.int .u8 ((48 + z : Nat) : Int)]) := by show _ = _; rw [hnb]; exact byte_of hz9
      have BN : Hid (dB (ds ++ [z]) = dB ds ++ nb) := by show _ = _; rw [hnb]; exact dB_snoc ds z
      have BL : Hid (1 = nb.length) := by show _ = _; rw [hnb]; rfl
      have HZ9 := Lib.hid hz9
      clear hnb hz9
      by_cases hlt1 : k < M
      · have q1 : decide ((k : Int) < (M : Int)) = true := decide_eq_true (by omega)
        have q2 : decide (k < M) = true := decide_eq_true hlt1
        clear hlt
        go_wp2_with fail
        (with_reducible refine (DA2.out _).mono ?_)
        rintro e w4 ⟨rfl, rfl⟩
        go_wp2_with fail
        (with_reducible refine (DB2.out _).mono ?_)
        rintro e w4 ⟨rfl, rfl⟩
        go_wp2_with (at_builtin; go_loud (refine wp_append_new (w := wr) rfl _ _ rfl w.heap.size u5 (dB ds) rfl HR.out nb _ 1 rfl BL.out (by rw [BC.out]; rfl) (by rw [dB_len, HLD.out]; omega) (by have := HW.out.size; omega) ?_))
        intro v5 W5 hR5 hb5
        have HR5 := Lib.hid hR5
        have HW5 := Lib.hid (HW.out.trans (hb5.mono (Nat.le_refl _)))
        clear hR5 hb5
        go_wp2
        go_roundw
        case rel => exact ⟨k + 1, y', ds ++ [z], by go_num, rfl, hy1, HKN.out, HDS.out.append (Digs.cons HZ9.out Digs.nil), by rw [List.length_append, HLD.out]; rfl, ST2.out, by rw [BN.out]; exact HR5.out, HW5.out⟩
        case measure => simp [intOf]; omega
      · have q1 : decide ((k : Int) < (M : Int)) = false := decide_eq_false (by omega)
        have q2 : decide (k < M) = false := decide_eq_false hlt1
        have c1 : 0 < c := by omega
        have q3 : decide (0 < (c : Int)) = true := decide_eq_true (by omega)
        have q4 : decide (0 < c) = true := decide_eq_true c1
        have HMK := Lib.hid (show k ≤ M by have := HK.out; omega)
        clear hlt
        go_wp2_with fail
        (with_reducible refine (DA2.out _).mono ?_)
        rintro e w4 ⟨rfl, rfl⟩
        go_wp2_with fail
        (with_reducible refine (DB2.out _).mono ?_)
        rintro e w4 ⟨rfl, rfl⟩
        go_wp2_with (at_builtin; go_loud (refine wp_append_new (w := wr) rfl _ _ rfl w.heap.size u5 (dB ds) rfl HR.out nb _ 1 rfl BL.out (by rw [BC.out]; rfl) (by rw [dB_len, HLD.out]; omega) (by have := HW.out.size; omega) ?_))
        intro v5 W5 hR5 hb5
        have HR5 := Lib.hid hR5
        have HW5 := Lib.hid (HW.out.trans (hb5.mono (Nat.le_refl _)))
        clear hR5 hb5
        go_wp2
        go_roundw
        case rel => exact ⟨k + 1, y', ds ++ [z], by go_num, rfl, hy1, HKN.out, HDS.out.append (Digs.cons HZ9.out Digs.nil), by rw [List.length_append, HLD.out]; rfl, ST2.out, by rw [BN.out]; exact HR5.out, HW5.out⟩
        case measure => have := HMK.out; simp [intOf]; omega
    · have h1 : ¬ k < M := fun h => hlt (.inl h)
      have h2 : c = 0 := by omega
      subst h2
      clear hlt
      have HV : Hid (rVal ds = x + y) := by
        have h1 := HE.out
        have h2 := LA.out
        have h3 := LB.out
        rw [rVal_take_all (by omega), rVal_take_all (by omega), RA.out, RB.out] at h1
        show _ = _
        omega
      have q1 : decide ((k : Int) < (M : Int)) = false := decide_eq_false (by omega)
      have q2 : decide (k < M) = false := decide_eq_false h1
      go_wp2_with fail
      (with_reducible refine (DT.out u5 ds k _ ?_ ?_ ?_ ?_ ?_ ?_).mono ?_)
      · exact HR.out
      · exact HDS.out
      · exact HLD.out
      · omega
      · omega
      · exact HV.out
      rintro e w4 ⟨rfl, hb4⟩
      go_wp2
      go_ret
      exact ⟨rfl, HW.out.trans (hb4.mono HW.out.size)⟩


set_option maxHeartbeats 2000000 in
set_option maxRecDepth 100000 in
theorem refCompare_err (na nb : Bool) (ia fa ib fb : ByteArray) (c1 c2 e : Int) (w : World) (H1 : ∀ wx : World, Calls Try.prog 54 #[(.agg #[.bool na, .string ia, .string fa])] wx fun r w' => r = .returned (.int .i64 c1) ∧ Below wx.heap.size wx w') (H2 : ∀ wx : World, Calls Try.prog 54 #[(.agg #[.bool nb, .string ib, .string fb])] wx fun r w' => r = .returned (.int .i64 c2) ∧ Below wx.heap.size wx w') (he : e ≠ 0) (hF : firstE c1 c2 = e) :
    Calls Try.prog 17 #[.agg #[.bool na, .string ia, .string fa], .agg #[.bool nb, .string ib, .string fb]] w fun r w' => r = .returned (.tuple #[.int .i64 0, .int .i64 e]) ∧ Below w.heap.size w w' := by
  have D1 := Lib.hid H1
  have D2 := Lib.hid H2
  have DF := Lib.hid (first_fresh c1 c2 e hF)
  have qe : (e != 0) = true := by simpa using he
  clear H1 H2 he hF
  go_enter Try.func17, Try.ntmps17
  go_wp2_with fail
  obtain ⟨W2, hW2⟩ : ∃ W2, W2 = (w.alloc (.cells #[.bool na, .string ia, .string fa] 23)).alloc (.cells #[.bool nb, .string ib, .string fb] 23) := ⟨_, rfl⟩
  obtain ⟨hb2, hz2, CA, CB, _⟩ : Below w.heap.size w W2 ∧ w.heap.size + 2 ≤ W2.heap.size ∧ Cells3 W2 w.heap.size (.bool na) (.string ia) (.string fa) ∧ Cells3 W2 (w.heap.size + 1) (.bool nb) (.string ib) (.string fb) ∧ ∀ i, W2.frozen? ⟨w.heap.size + 1, i, none⟩ = false := by rw [hW2]; exact ⟨below_two w _ _, two_boxes w _ _ _ _ _ _ _⟩
  rw [← hW2]
  clear hW2
  have CAh := Lib.hid CA
  have CBh := Lib.hid CB
  obtain ⟨na0, na1, na2⟩ := CA
  obtain ⟨nb0, nb1, nb2⟩ := CB
  have B2 := Lib.hid hb2
  clear hb2
  go_region_held3 (fun w' => (w'.cell? ⟨w.heap.size, 0, none⟩ = some (.bool na) ∧ w'.cell? ⟨w.heap.size, 1, none⟩ = some (.string ia) ∧ w'.cell? ⟨w.heap.size, 2, none⟩ = some (.string fa)) ∧ (w'.cell? ⟨w.heap.size + 1, 0, none⟩ = some (.bool nb) ∧ w'.cell? ⟨w.heap.size + 1, 1, none⟩ = some (.string ib) ∧ w'.cell? ⟨w.heap.size + 1, 2, none⟩ = some (.string fb)))
    (first
      | exact ⟨⟨na0, na1, na2⟩, ⟨nb0, nb1, nb2⟩⟩
      | (have t := CAh.out.keep hb5 (by omega); have u := CBh.out.keep hb5 (by omega); exact ⟨⟨t.1, t.2.1, t.2.2⟩, ⟨u.1, u.2.1, u.2.2⟩⟩)
      | (have t := CAh.out.keep hb4 (by omega); have u := CBh.out.keep hb4 (by omega); exact ⟨⟨t.1, t.2.1, t.2.2⟩, ⟨u.1, u.2.1, u.2.2⟩⟩)
      | (have t := CAh.out.keep (undrew hbA) (by omega); have u := CBh.out.keep (undrew hbA) (by omega); exact ⟨⟨t.1, t.2.1, t.2.2⟩, ⟨u.1, u.2.1, u.2.2⟩⟩)
      | go_keep)
    (first
      | (go_at_call 54; (with_reducible refine (D1.out _).mono ?_); rintro e wA ⟨rfl, hbA⟩)
      | (go_at_call 54; (with_reducible refine (D2.out _).mono ?_); rintro e wB ⟨rfl, hbB⟩
         have hb4 : Below W2.heap.size W2 wB := (undrew hbA).trans (hbB.mono (undrew hbA).size))
      | (go_at_call 53; (with_reducible refine (DF.out _ _ ?_).mono ?_); (focus rfl); rintro e wC ⟨rfl, hbC⟩
         have hb5 : Below W2.heap.size W2 wC := hb4.trans (hbC.mono hb4.size)))
  go_wp2
  exact bodyPost_ret (v := .tuple #[.int .i64 0, .int .i64 e]) (by simp [results, Try.results17, go_sem]) rfl ⟨rfl, B2.out.trans (hb5.mono B2.out.size)⟩

set_option maxHeartbeats 4000000 in
set_option maxRecDepth 100000 in
theorem refCompare_ok (a b : Dc) (w : World) (ha : a.Ok) (hb : b.Ok) :
    Calls Try.prog 17 #[.agg #[.bool a.neg, .string (dStr a.i), .string (dStr a.f)], .agg #[.bool b.neg, .string (dStr b.i), .string (dStr b.f)]] w fun r w' => r = .returned (.tuple #[.int .i64 (cmpD a b), .int .i64 0]) ∧ Below w.heap.size w w' := by
  have D1 := Lib.hid (fun wx => refCheck_ok a wx ha)
  have D2 := Lib.hid (fun wx => refCheck_ok b wx hb)
  have DF := Lib.hid (first_fresh 0 0 0 rfl)
  obtain ⟨s, hs⟩ : ∃ s, s = (max a.f.length b.f.length) := ⟨_, rfl⟩
  have s1 : a.f.length ≤ s := by omega
  have s2 : b.f.length ≤ s := by omega
  have s3 : s ≤ 40 := by have := ha.most; have := hb.most; omega
  have R1 := (digs_le (a.raised s) (40 + s) (by omega)).2 (raised_lt a 40 s ha.fm (by have := ha.most; omega) s1)
  have R2 := (digs_le (b.raised s) (40 + s) (by omega)).2 (raised_lt b 40 s hb.fm (by have := hb.most; omega) s2)
  have DA := Lib.hid (fun wx => refRaised_any a s wx ha s1 (by omega))
  have DB := Lib.hid (fun wx => refRaised_any b s wx hb s2 (by omega))
  have sfa : (dStr a.f).size = a.f.length := dStr_size a.f
  have sfb : (dStr b.f).size = b.f.length := dStr_size b.f
  have qs : (if a.f.length < b.f.length then (b.f.length : Int) else (a.f.length : Int)) = (s : Int) := by rw [hs]; split <;> omega
  have DC := Lib.hid (fun wx => refCmp_any (a.raised s) (b.raised s) wx (by omega) (by omega))
  have CF := Lib.hid (cmp_ref a b hs ha.sign hb.sign)
  have k1 : -1 ≤ cmpN (a.raised s) (b.raised s) ∧ cmpN (a.raised s) (b.raised s) ≤ 1 := by unfold cmpN; repeat' split; all_goals omega
  generalize cmpN (a.raised s) (b.raised s) = kk at *
  generalize a.raised s = ra at *
  generalize b.raised s = rb at *
  generalize cmpD a b = res at *
  have wn : IntKind.i64.wrap (-kk) = -kk := IntWalk.i64_in _ (by omega)
  have wm : IntKind.i64.wrap (-1) = -1 := by decide
  clear ha hb hs s1 s2 s3 R1 R2 k1
  go_enter Try.func17, Try.ntmps17
  go_wp2_with fail
  obtain ⟨W2, hW2⟩ : ∃ W2, W2 = (w.alloc (.cells #[.bool a.neg, .string (dStr a.i), .string (dStr a.f)] 23)).alloc (.cells #[.bool b.neg, .string (dStr b.i), .string (dStr b.f)] 23) := ⟨_, rfl⟩
  obtain ⟨hb2, hz2, CA, CB, _⟩ : Below w.heap.size w W2 ∧ w.heap.size + 2 ≤ W2.heap.size ∧ Cells3 W2 w.heap.size (.bool a.neg) (.string (dStr a.i)) (.string (dStr a.f)) ∧ Cells3 W2 (w.heap.size + 1) (.bool b.neg) (.string (dStr b.i)) (.string (dStr b.f)) ∧ ∀ i, W2.frozen? ⟨w.heap.size + 1, i, none⟩ = false := by rw [hW2]; exact ⟨below_two w _ _, two_boxes w _ _ _ _ _ _ _⟩
  rw [← hW2]
  clear hW2
  have CAh := Lib.hid CA
  have CBh := Lib.hid CB
  obtain ⟨na0, na1, na2⟩ := CA
  obtain ⟨nb0, nb1, nb2⟩ := CB
  have B2 := Lib.hid hb2
  clear hb2
  go_region_held3 (fun w' => (w'.cell? ⟨w.heap.size, 0, none⟩ = some (.bool a.neg) ∧ w'.cell? ⟨w.heap.size, 1, none⟩ = some (.string (dStr a.i)) ∧ w'.cell? ⟨w.heap.size, 2, none⟩ = some (.string (dStr a.f))) ∧ (w'.cell? ⟨w.heap.size + 1, 0, none⟩ = some (.bool b.neg) ∧ w'.cell? ⟨w.heap.size + 1, 1, none⟩ = some (.string (dStr b.i)) ∧ w'.cell? ⟨w.heap.size + 1, 2, none⟩ = some (.string (dStr b.f))))
    (first
      | exact ⟨⟨na0, na1, na2⟩, ⟨nb0, nb1, nb2⟩⟩
      | (have t := CAh.out.keep hb5 (by omega); have u := CBh.out.keep hb5 (by omega); exact ⟨⟨t.1, t.2.1, t.2.2⟩, ⟨u.1, u.2.1, u.2.2⟩⟩)
      | (have t := CAh.out.keep hb4 (by omega); have u := CBh.out.keep hb4 (by omega); exact ⟨⟨t.1, t.2.1, t.2.2⟩, ⟨u.1, u.2.1, u.2.2⟩⟩)
      | (have t := CAh.out.keep (undrew hbA) (by omega); have u := CBh.out.keep (undrew hbA) (by omega); exact ⟨⟨t.1, t.2.1, t.2.2⟩, ⟨u.1, u.2.1, u.2.2⟩⟩)
      | go_keep)
    (first
      | (go_at_call 54; (with_reducible refine (D1.out _).mono ?_); rintro e wA ⟨rfl, hbA⟩)
      | (go_at_call 54; (with_reducible refine (D2.out _).mono ?_); rintro e wB ⟨rfl, hbB⟩
         have hb4 : Below W2.heap.size W2 wB := (undrew hbA).trans (hbB.mono (undrew hbA).size))
      | (go_at_call 53; (with_reducible refine (DF.out _ _ ?_).mono ?_); (focus rfl); rintro e wC ⟨rfl, hbC⟩
         have hb5 : Below W2.heap.size W2 wC := hb4.trans (hbC.mono hb4.size)))
  have CA := CAh.out.keep hb5 (by omega)
  have CB := CBh.out.keep hb5 (by omega)


  have hz3 : w.heap.size + 2 ≤ wC.heap.size := by have := hb5.size; omega
  have B3 := Lib.hid (B2.out.trans (hb5.mono B2.out.size))
  clear hb4 hb5 hbC hbA hbB na0 na1 na2 nb0 nb1 nb2 CAh CBh B2
  have CAh := Lib.hid CA
  have CBh := Lib.hid CB
  obtain ⟨na0, na1, na2⟩ := CA
  obtain ⟨nb0, nb1, nb2⟩ := CB
  go_wp2_with fail
  go_region_held3 (fun w' => (w'.cell? ⟨w.heap.size, 0, none⟩ = some (.bool a.neg) ∧ w'.cell? ⟨w.heap.size, 1, none⟩ = some (.string (dStr a.i)) ∧ w'.cell? ⟨w.heap.size, 2, none⟩ = some (.string (dStr a.f))) ∧ (w'.cell? ⟨w.heap.size + 1, 0, none⟩ = some (.bool b.neg) ∧ w'.cell? ⟨w.heap.size + 1, 1, none⟩ = some (.string (dStr b.i)) ∧ w'.cell? ⟨w.heap.size + 1, 2, none⟩ = some (.string (dStr b.f))))
    (first
      | exact ⟨⟨na0, na1, na2⟩, ⟨nb0, nb1, nb2⟩⟩
      | (have t := CAh.out.keep hb5 (by omega); have u := CBh.out.keep hb5 (by omega); exact ⟨⟨t.1, t.2.1, t.2.2⟩, ⟨u.1, u.2.1, u.2.2⟩⟩)
      | (have t := CAh.out.keep hb4 (by omega); have u := CBh.out.keep hb4 (by omega); exact ⟨⟨t.1, t.2.1, t.2.2⟩, ⟨u.1, u.2.1, u.2.2⟩⟩)
      | (have t := CAh.out.keep (undrew hbA) (by omega); have u := CBh.out.keep (undrew hbA) (by omega); exact ⟨⟨t.1, t.2.1, t.2.2⟩, ⟨u.1, u.2.1, u.2.2⟩⟩)
      | go_keep)
    (first
      | (go_at_call 56; (with_reducible refine (DA.out _).mono ?_); rintro e wA ⟨rfl, hbA⟩)
      | (go_at_call 56; (with_reducible refine (DB.out _).mono ?_); rintro e wB ⟨rfl, hbB⟩
         have hb4 : Below wC.heap.size wC wB := (undrew hbA).trans (hbB.mono (undrew hbA).size))
      | (go_at_call 55; (with_reducible refine (DC.out _).mono ?_); rintro e wD ⟨rfl, rfl⟩))
  obtain ⟨na0, na1, na2⟩ := CAh.out.keep hb4 (by omega)
  obtain ⟨nb0, nb1, nb2⟩ := CBh.out.keep hb4 (by omega)
  have B5 := Lib.hid (B3.out.trans (hb4.mono B3.out.size))
  clear hb4
  generalize a.neg = an at *
  generalize b.neg = bn at *
  cases an <;> cases bn
  all_goals
    go_wp2
    exact bodyPost_ret (v := .tuple #[.int .i64 res, .int .i64 0]) (by rw [CF.out]; simp [results, Try.results17, go_sem]) rfl ⟨rfl, B5.out⟩


set_option maxHeartbeats 2000000 in
set_option maxRecDepth 100000 in
theorem refSum_err (na nb : Bool) (ia fa ib fb : ByteArray) (less : Bool) (c1 c2 e : Int) (w : World) (H1 : ∀ wx : World, Calls Try.prog 54 #[(.agg #[.bool na, .string ia, .string fa])] wx fun r w' => r = .returned (.int .i64 c1) ∧ Below wx.heap.size wx w') (H2 : ∀ wx : World, Calls Try.prog 54 #[(.agg #[.bool nb, .string ib, .string fb])] wx fun r w' => r = .returned (.int .i64 c2) ∧ Below wx.heap.size wx w') (he : e ≠ 0) (hF : firstE c1 c2 = e) :
    Calls Try.prog 58 #[.agg #[.bool na, .string ia, .string fa], .agg #[.bool nb, .string ib, .string fb], .bool less] w fun r w' => r = .returned (.tuple #[.agg #[.bool false, .string ⟨#[]⟩, .string ⟨#[]⟩], .int .i64 e]) ∧ Below w.heap.size w w' := by
  have D1 := Lib.hid H1
  have D2 := Lib.hid H2
  have DF := Lib.hid (first_fresh c1 c2 e hF)
  have qe : (e != 0) = true := by simpa using he
  clear H1 H2 he hF
  go_enter Try.func58, Try.ntmps58
  go_wp2_with fail
  obtain ⟨W2, hW2⟩ : ∃ W2, W2 = ((w.alloc (.cells #[.bool na, .string ia, .string fa] 23)).alloc (.cells #[.bool nb, .string ib, .string fb] 23)).alloc (.cells #[.bool false, .string ⟨#[]⟩, .string ⟨#[]⟩] 23) := ⟨_, rfl⟩
  obtain ⟨hb2, hz2, CA, CB, CR, FR⟩ : Below w.heap.size w W2 ∧ w.heap.size + 3 ≤ W2.heap.size ∧ Cells3 W2 w.heap.size (.bool na) (.string ia) (.string fa) ∧ Cells3 W2 (w.heap.size + 1) (.bool nb) (.string ib) (.string fb) ∧ Cells3 W2 (w.heap.size + 2) (.bool false) (.string ⟨#[]⟩) (.string ⟨#[]⟩) ∧ ∀ i, W2.frozen? ⟨w.heap.size + 2, i, none⟩ = false := by rw [hW2]; exact ⟨below_three w _ _ _, three_boxes w _ _ _ _ _ _ _ _ _ _⟩
  rw [← hW2]
  clear hW2
  have CAh := Lib.hid CA
  have CBh := Lib.hid CB
  obtain ⟨na0, na1, na2⟩ := CA
  obtain ⟨nb0, nb1, nb2⟩ := CB
  have B2 := Lib.hid hb2
  clear hb2
  go_region_held3 (fun w' => (w'.cell? ⟨w.heap.size, 0, none⟩ = some (.bool na) ∧ w'.cell? ⟨w.heap.size, 1, none⟩ = some (.string ia) ∧ w'.cell? ⟨w.heap.size, 2, none⟩ = some (.string fa)) ∧ (w'.cell? ⟨w.heap.size + 1, 0, none⟩ = some (.bool nb) ∧ w'.cell? ⟨w.heap.size + 1, 1, none⟩ = some (.string ib) ∧ w'.cell? ⟨w.heap.size + 1, 2, none⟩ = some (.string fb)))
    (first
      | exact ⟨⟨na0, na1, na2⟩, ⟨nb0, nb1, nb2⟩⟩
      | (have t := CAh.out.keep hb5 (by omega); have u := CBh.out.keep hb5 (by omega); exact ⟨⟨t.1, t.2.1, t.2.2⟩, ⟨u.1, u.2.1, u.2.2⟩⟩)
      | (have t := CAh.out.keep hb4 (by omega); have u := CBh.out.keep hb4 (by omega); exact ⟨⟨t.1, t.2.1, t.2.2⟩, ⟨u.1, u.2.1, u.2.2⟩⟩)
      | (have t := CAh.out.keep (undrew hbA) (by omega); have u := CBh.out.keep (undrew hbA) (by omega); exact ⟨⟨t.1, t.2.1, t.2.2⟩, ⟨u.1, u.2.1, u.2.2⟩⟩)
      | go_keep)
    (first
      | (go_at_call 54; (with_reducible refine (D1.out _).mono ?_); rintro e wA ⟨rfl, hbA⟩)
      | (go_at_call 54; (with_reducible refine (D2.out _).mono ?_); rintro e wB ⟨rfl, hbB⟩
         have hb4 : Below W2.heap.size W2 wB := (undrew hbA).trans (hbB.mono (undrew hbA).size))
      | (go_at_call 53; (with_reducible refine (DF.out _ _ ?_).mono ?_); (focus rfl); rintro e wC ⟨rfl, hbC⟩
         have hb5 : Below W2.heap.size W2 wC := hb4.trans (hbC.mono hb4.size)))
  obtain ⟨r0, r1, r2⟩ := CR.keep hb5 (by omega)
  have z0 := frozen_keep FR hb5 (by omega)
  obtain ⟨e0, e1, e2⟩ := res_cells r0 r1 r2 (.bool false) (.string ⟨#[]⟩) (.string ⟨#[]⟩)
  go_wp2
  exact bodyPost_ret (v := .tuple #[.agg #[.bool false, .string ⟨#[]⟩, .string ⟨#[]⟩], .int .i64 e]) (by simp [results, Try.results58, go_sem, e0, e1, e2]) rfl ⟨rfl, res_below (B2.out.trans (hb5.mono B2.out.size)) (by omega) _ _ _⟩

set_option maxHeartbeats 4000000 in
set_option maxRecDepth 100000 in
theorem refSum_same (a b : Dc) (less ng : Bool) (s : Nat) (w : World) (o : Option Dc) (hs : s = (max a.f.length b.f.length)) (ha : a.Ok) (hb : b.Ok) (hg : (b.neg == less) = !ng) (hn : a.neg = ng) (ho : mkN ng (a.raised s + b.raised s) s = o) :
    Calls Try.prog 58 #[.agg #[.bool a.neg, .string (dStr a.i), .string (dStr a.f)], .agg #[.bool b.neg, .string (dStr b.i), .string (dStr b.f)], .bool less] w fun r w' => r = .returned (.tuple #[.agg #[.bool (oN o), .string (oI o), .string (oF o)], .int .i64 (oE o)]) ∧ Below w.heap.size w w' := by
  have D1 := Lib.hid (fun wx => refCheck_ok a wx ha)
  have D2 := Lib.hid (fun wx => refCheck_ok b wx hb)
  have DF := Lib.hid (first_fresh 0 0 0 rfl)
  have s1 : a.f.length ≤ s := by omega
  have s2 : b.f.length ≤ s := by omega
  have s3 : s ≤ 40 := by have := ha.most; have := hb.most; omega
  have R1 := (digs_le (a.raised s) (40 + s) (by omega)).2 (raised_lt a 40 s ha.fm (by have := ha.most; omega) s1)
  have R2 := (digs_le (b.raised s) (40 + s) (by omega)).2 (raised_lt b 40 s hb.fm (by have := hb.most; omega) s2)
  have DA := Lib.hid (fun wx => refRaised_any a s wx ha s1 (by omega))
  have DB := Lib.hid (fun wx => refRaised_any b s wx hb s2 (by omega))
  have sfa : (dStr a.f).size = a.f.length := dStr_size a.f
  have sfb : (dStr b.f).size = b.f.length := dStr_size b.f
  have qs : (if a.f.length < b.f.length then (b.f.length : Int) else (a.f.length : Int)) = (s : Int) := by rw [hs]; split <;> omega
  have X1 := raised_lt a 40 s ha.fm (by have := ha.most; omega) s1
  have X2 := raised_lt b 40 s hb.fm (by have := hb.most; omega) s2
  have LV : (digs (a.raised s + b.raised s)).length ≤ 100 := by
    have := (digs_le (a.raised s + b.raised s) (40 + s + 1) (by omega)).2 (Nat.lt_of_lt_of_le (Nat.add_lt_add X1 X2) (by rw [Nat.pow_succ]; omega))
    omega
  have DP := Lib.hid (fun wx => refPlus_any (a.raised s) (b.raised s) wx (by omega) (by omega))
  have qa : (a.neg == ng) = true := by rw [hn]; exact beq_self_eq_true _
  have DM : Hid (∀ (wx : World), Calls Try.prog 62 #[.bool ng, .string (dStr (digs (a.raised s + b.raised s))), .int .i64 (s : Int)] wx fun r w' => r = .returned (.tuple #[.agg #[.bool (oN o), .string (oI o), .string (oF o)], .int .i64 (oE o)]) ∧ Below wx.heap.size wx w') :=
    fun wx => refMake_any ng (digs (a.raised s + b.raised s)) s wx o (by rw [dVal_digs]; exact ho) (digs_digs _) (by omega) (by omega)
  generalize hval : (a.raised s + b.raised s) = vv at *
  generalize hra : a.raised s = ra at *
  generalize hrb : b.raised s = rb at *
  clear ha hb hs s1 s2 s3 R1 R2 X1 X2 LV hn ho hval hra hrb
  go_enter Try.func58, Try.ntmps58
  go_wp2_with fail
  obtain ⟨W2, hW2⟩ : ∃ W2, W2 = ((w.alloc (.cells #[.bool a.neg, .string (dStr a.i), .string (dStr a.f)] 23)).alloc (.cells #[.bool b.neg, .string (dStr b.i), .string (dStr b.f)] 23)).alloc (.cells #[.bool false, .string ⟨#[]⟩, .string ⟨#[]⟩] 23) := ⟨_, rfl⟩
  obtain ⟨hb2, hz2, CA, CB, CR, FR⟩ : Below w.heap.size w W2 ∧ w.heap.size + 3 ≤ W2.heap.size ∧ Cells3 W2 w.heap.size (.bool a.neg) (.string (dStr a.i)) (.string (dStr a.f)) ∧ Cells3 W2 (w.heap.size + 1) (.bool b.neg) (.string (dStr b.i)) (.string (dStr b.f)) ∧ Cells3 W2 (w.heap.size + 2) (.bool false) (.string ⟨#[]⟩) (.string ⟨#[]⟩) ∧ ∀ i, W2.frozen? ⟨w.heap.size + 2, i, none⟩ = false := by rw [hW2]; exact ⟨below_three w _ _ _, three_boxes w _ _ _ _ _ _ _ _ _ _⟩
  rw [← hW2]
  clear hW2
  have CAh := Lib.hid CA
  have CBh := Lib.hid CB
  obtain ⟨na0, na1, na2⟩ := CA
  obtain ⟨nb0, nb1, nb2⟩ := CB
  have B2 := Lib.hid hb2
  clear hb2
  go_region_held3 (fun w' => (w'.cell? ⟨w.heap.size, 0, none⟩ = some (.bool a.neg) ∧ w'.cell? ⟨w.heap.size, 1, none⟩ = some (.string (dStr a.i)) ∧ w'.cell? ⟨w.heap.size, 2, none⟩ = some (.string (dStr a.f))) ∧ (w'.cell? ⟨w.heap.size + 1, 0, none⟩ = some (.bool b.neg) ∧ w'.cell? ⟨w.heap.size + 1, 1, none⟩ = some (.string (dStr b.i)) ∧ w'.cell? ⟨w.heap.size + 1, 2, none⟩ = some (.string (dStr b.f))))
    (first
      | exact ⟨⟨na0, na1, na2⟩, ⟨nb0, nb1, nb2⟩⟩
      | (have t := CAh.out.keep hb5 (by omega); have u := CBh.out.keep hb5 (by omega); exact ⟨⟨t.1, t.2.1, t.2.2⟩, ⟨u.1, u.2.1, u.2.2⟩⟩)
      | (have t := CAh.out.keep hb4 (by omega); have u := CBh.out.keep hb4 (by omega); exact ⟨⟨t.1, t.2.1, t.2.2⟩, ⟨u.1, u.2.1, u.2.2⟩⟩)
      | (have t := CAh.out.keep (undrew hbA) (by omega); have u := CBh.out.keep (undrew hbA) (by omega); exact ⟨⟨t.1, t.2.1, t.2.2⟩, ⟨u.1, u.2.1, u.2.2⟩⟩)
      | go_keep)
    (first
      | (go_at_call 54; (with_reducible refine (D1.out _).mono ?_); rintro e wA ⟨rfl, hbA⟩)
      | (go_at_call 54; (with_reducible refine (D2.out _).mono ?_); rintro e wB ⟨rfl, hbB⟩
         have hb4 : Below W2.heap.size W2 wB := (undrew hbA).trans (hbB.mono (undrew hbA).size))
      | (go_at_call 53; (with_reducible refine (DF.out _ _ ?_).mono ?_); (focus rfl); rintro e wC ⟨rfl, hbC⟩
         have hb5 : Below W2.heap.size W2 wC := hb4.trans (hbC.mono hb4.size)))
  have CA := CAh.out.keep hb5 (by omega)
  have CB := CBh.out.keep hb5 (by omega)
  have CR := Lib.hid (CR.keep hb5 (by omega))
  have FR := Lib.hid (frozen_keep FR hb5 (by omega))
  have hz3 : w.heap.size + 3 ≤ wC.heap.size := by have := hb5.size; omega
  have B3 := Lib.hid (B2.out.trans (hb5.mono B2.out.size))
  clear hb4 hb5 hbC hbA hbB na0 na1 na2 nb0 nb1 nb2 CAh CBh B2
  have CAh := Lib.hid CA
  have CBh := Lib.hid CB
  obtain ⟨na0, na1, na2⟩ := CA
  obtain ⟨nb0, nb1, nb2⟩ := CB
  go_wp2_with fail
  go_region_held3 (fun w' => (w'.cell? ⟨w.heap.size, 0, none⟩ = some (.bool a.neg) ∧ w'.cell? ⟨w.heap.size, 1, none⟩ = some (.string (dStr a.i)) ∧ w'.cell? ⟨w.heap.size, 2, none⟩ = some (.string (dStr a.f))) ∧ (w'.cell? ⟨w.heap.size + 1, 0, none⟩ = some (.bool b.neg) ∧ w'.cell? ⟨w.heap.size + 1, 1, none⟩ = some (.string (dStr b.i)) ∧ w'.cell? ⟨w.heap.size + 1, 2, none⟩ = some (.string (dStr b.f))))
    (first
      | exact ⟨⟨na0, na1, na2⟩, ⟨nb0, nb1, nb2⟩⟩
      | (have t := CAh.out.keep hb5 (by omega); have u := CBh.out.keep hb5 (by omega); exact ⟨⟨t.1, t.2.1, t.2.2⟩, ⟨u.1, u.2.1, u.2.2⟩⟩)
      | (have t := CAh.out.keep hb4 (by omega); have u := CBh.out.keep hb4 (by omega); exact ⟨⟨t.1, t.2.1, t.2.2⟩, ⟨u.1, u.2.1, u.2.2⟩⟩)
      | (have t := CAh.out.keep (undrew hbA) (by omega); have u := CBh.out.keep (undrew hbA) (by omega); exact ⟨⟨t.1, t.2.1, t.2.2⟩, ⟨u.1, u.2.1, u.2.2⟩⟩)
      | go_keep)
    (first
      | (go_at_call 56; (with_reducible refine (DA.out _).mono ?_); rintro e wA ⟨rfl, hbA⟩)
      | (go_at_call 56; (with_reducible refine (DB.out _).mono ?_); rintro e wB ⟨rfl, hbB⟩
         have hb4 : Below wC.heap.size wC wB := (undrew hbA).trans (hbB.mono (undrew hbA).size)))
  obtain ⟨na0, na1, na2⟩ := CAh.out.keep hb4 (by omega)
  obtain ⟨nb0, nb1, nb2⟩ := CBh.out.keep hb4 (by omega)
  have CR5 := Lib.hid (CR.out.keep hb4 (by omega))
  have FR5 := Lib.hid (frozen_keep FR.out hb4 (by omega))
  have hz5 : w.heap.size + 3 ≤ wB.heap.size := by have := hb4.size; omega
  have B5 := Lib.hid (B3.out.trans (hb4.mono B3.out.size))
  clear hb4
  go_wp2_with fail
  (with_reducible refine (DP.out _).mono ?_)
  rintro e wF ⟨rfl, hbF⟩
  have CR6 := Lib.hid (CR5.out.keep hbF (by omega))
  have FR6 := Lib.hid (frozen_keep FR5.out hbF (by omega))
  have hz6 : w.heap.size + 3 ≤ wF.heap.size := by have := hbF.size; omega
  have B6 := Lib.hid (B5.out.trans (hbF.mono B5.out.size))
  clear hbF
  go_wp2_with fail
  (with_reducible refine (DM.out _).mono ?_)
  rintro e wG ⟨rfl, hbG⟩
  obtain ⟨r0, r1, r2⟩ := CR6.out.keep hbG (by omega)
  have z0 := frozen_keep FR6.out hbG (by omega)
  have B7 := Lib.hid (B6.out.trans (hbG.mono B6.out.size))
  obtain ⟨e0, e1, e2⟩ := res_cells r0 r1 r2 (.bool (oN o)) (.string (oI o)) (.string (oF o))
  go_wp2
  exact bodyPost_ret (v := .tuple #[.agg #[.bool (oN o), .string (oI o), .string (oF o)], .int .i64 (oE o)]) (by simp [results, Try.results58, go_sem, e0, e1, e2]) rfl ⟨rfl, res_below B7.out (by omega) _ _ _⟩


set_option maxHeartbeats 4000000 in
set_option maxRecDepth 100000 in
theorem refSum_first (a b : Dc) (less ng : Bool) (s : Nat) (w : World) (o : Option Dc) (hs : s = (max a.f.length b.f.length)) (ha : a.Ok) (hb : b.Ok) (hg : (b.neg == less) = !ng) (hn : a.neg ≠ ng) (hle : b.raised s ≤ a.raised s) (ho : mkN a.neg (a.raised s - b.raised s) s = o) :
    Calls Try.prog 58 #[.agg #[.bool a.neg, .string (dStr a.i), .string (dStr a.f)], .agg #[.bool b.neg, .string (dStr b.i), .string (dStr b.f)], .bool less] w fun r w' => r = .returned (.tuple #[.agg #[.bool (oN o), .string (oI o), .string (oF o)], .int .i64 (oE o)]) ∧ Below w.heap.size w w' := by
  have D1 := Lib.hid (fun wx => refCheck_ok a wx ha)
  have D2 := Lib.hid (fun wx => refCheck_ok b wx hb)
  have DF := Lib.hid (first_fresh 0 0 0 rfl)
  have s1 : a.f.length ≤ s := by omega
  have s2 : b.f.length ≤ s := by omega
  have s3 : s ≤ 40 := by have := ha.most; have := hb.most; omega
  have R1 := (digs_le (a.raised s) (40 + s) (by omega)).2 (raised_lt a 40 s ha.fm (by have := ha.most; omega) s1)
  have R2 := (digs_le (b.raised s) (40 + s) (by omega)).2 (raised_lt b 40 s hb.fm (by have := hb.most; omega) s2)
  have DA := Lib.hid (fun wx => refRaised_any a s wx ha s1 (by omega))
  have DB := Lib.hid (fun wx => refRaised_any b s wx hb s2 (by omega))
  have sfa : (dStr a.f).size = a.f.length := dStr_size a.f
  have sfb : (dStr b.f).size = b.f.length := dStr_size b.f
  have qs : (if a.f.length < b.f.length then (b.f.length : Int) else (a.f.length : Int)) = (s : Int) := by rw [hs]; split <;> omega
  have X1 := raised_lt a 40 s ha.fm (by have := ha.most; omega) s1
  have X2 := raised_lt b 40 s hb.fm (by have := hb.most; omega) s2
  have LV : (digs (a.raised s - b.raised s)).length ≤ 100 := by
    have := (digs_le (a.raised s - b.raised s) (40 + s + 1) (by omega)).2 (Nat.lt_of_le_of_lt (Nat.sub_le _ _) (Nat.lt_of_lt_of_le X1 (Nat.pow_le_pow_right (by omega) (by omega))))
    omega
  have DP := Lib.hid (fun wx => refMinus_any (a.raised s) (b.raised s) wx hle (by omega) (by omega))
  have qa : (a.neg == ng) = false := by simpa using hn
  have DM : Hid (∀ (wx : World), Calls Try.prog 62 #[.bool a.neg, .string (dStr (digs (a.raised s - b.raised s))), .int .i64 (s : Int)] wx fun r w' => r = .returned (.tuple #[.agg #[.bool (oN o), .string (oI o), .string (oF o)], .int .i64 (oE o)]) ∧ Below wx.heap.size wx w') :=
    fun wx => refMake_any a.neg (digs (a.raised s - b.raised s)) s wx o (by rw [dVal_digs]; exact ho) (digs_digs _) (by omega) (by omega)
  have DC := Lib.hid (fun wx => refCmp_any (a.raised s) (b.raised s) wx (by omega) (by omega))
  have qk : decide (0 ≤ cmpN (a.raised s) (b.raised s)) = true := decide_eq_true (by unfold cmpN; repeat' split; all_goals omega)
  generalize cmpN (a.raised s) (b.raised s) = kk at *
  generalize hval : (a.raised s - b.raised s) = vv at *
  generalize hra : a.raised s = ra at *
  generalize hrb : b.raised s = rb at *
  clear ha hb hs s1 s2 s3 R1 R2 X1 X2 LV hn ho hval hra hrb hle
  go_enter Try.func58, Try.ntmps58
  go_wp2_with fail
  obtain ⟨W2, hW2⟩ : ∃ W2, W2 = ((w.alloc (.cells #[.bool a.neg, .string (dStr a.i), .string (dStr a.f)] 23)).alloc (.cells #[.bool b.neg, .string (dStr b.i), .string (dStr b.f)] 23)).alloc (.cells #[.bool false, .string ⟨#[]⟩, .string ⟨#[]⟩] 23) := ⟨_, rfl⟩
  obtain ⟨hb2, hz2, CA, CB, CR, FR⟩ : Below w.heap.size w W2 ∧ w.heap.size + 3 ≤ W2.heap.size ∧ Cells3 W2 w.heap.size (.bool a.neg) (.string (dStr a.i)) (.string (dStr a.f)) ∧ Cells3 W2 (w.heap.size + 1) (.bool b.neg) (.string (dStr b.i)) (.string (dStr b.f)) ∧ Cells3 W2 (w.heap.size + 2) (.bool false) (.string ⟨#[]⟩) (.string ⟨#[]⟩) ∧ ∀ i, W2.frozen? ⟨w.heap.size + 2, i, none⟩ = false := by rw [hW2]; exact ⟨below_three w _ _ _, three_boxes w _ _ _ _ _ _ _ _ _ _⟩
  rw [← hW2]
  clear hW2
  have CAh := Lib.hid CA
  have CBh := Lib.hid CB
  obtain ⟨na0, na1, na2⟩ := CA
  obtain ⟨nb0, nb1, nb2⟩ := CB
  have B2 := Lib.hid hb2
  clear hb2
  go_region_held3 (fun w' => (w'.cell? ⟨w.heap.size, 0, none⟩ = some (.bool a.neg) ∧ w'.cell? ⟨w.heap.size, 1, none⟩ = some (.string (dStr a.i)) ∧ w'.cell? ⟨w.heap.size, 2, none⟩ = some (.string (dStr a.f))) ∧ (w'.cell? ⟨w.heap.size + 1, 0, none⟩ = some (.bool b.neg) ∧ w'.cell? ⟨w.heap.size + 1, 1, none⟩ = some (.string (dStr b.i)) ∧ w'.cell? ⟨w.heap.size + 1, 2, none⟩ = some (.string (dStr b.f))))
    (first
      | exact ⟨⟨na0, na1, na2⟩, ⟨nb0, nb1, nb2⟩⟩
      | (have t := CAh.out.keep hb5 (by omega); have u := CBh.out.keep hb5 (by omega); exact ⟨⟨t.1, t.2.1, t.2.2⟩, ⟨u.1, u.2.1, u.2.2⟩⟩)
      | (have t := CAh.out.keep hb4 (by omega); have u := CBh.out.keep hb4 (by omega); exact ⟨⟨t.1, t.2.1, t.2.2⟩, ⟨u.1, u.2.1, u.2.2⟩⟩)
      | (have t := CAh.out.keep (undrew hbA) (by omega); have u := CBh.out.keep (undrew hbA) (by omega); exact ⟨⟨t.1, t.2.1, t.2.2⟩, ⟨u.1, u.2.1, u.2.2⟩⟩)
      | go_keep)
    (first
      | (go_at_call 54; (with_reducible refine (D1.out _).mono ?_); rintro e wA ⟨rfl, hbA⟩)
      | (go_at_call 54; (with_reducible refine (D2.out _).mono ?_); rintro e wB ⟨rfl, hbB⟩
         have hb4 : Below W2.heap.size W2 wB := (undrew hbA).trans (hbB.mono (undrew hbA).size))
      | (go_at_call 53; (with_reducible refine (DF.out _ _ ?_).mono ?_); (focus rfl); rintro e wC ⟨rfl, hbC⟩
         have hb5 : Below W2.heap.size W2 wC := hb4.trans (hbC.mono hb4.size)))
  have CA := CAh.out.keep hb5 (by omega)
  have CB := CBh.out.keep hb5 (by omega)
  have CR := Lib.hid (CR.keep hb5 (by omega))
  have FR := Lib.hid (frozen_keep FR hb5 (by omega))
  have hz3 : w.heap.size + 3 ≤ wC.heap.size := by have := hb5.size; omega
  have B3 := Lib.hid (B2.out.trans (hb5.mono B2.out.size))
  clear hb4 hb5 hbC hbA hbB na0 na1 na2 nb0 nb1 nb2 CAh CBh B2
  have CAh := Lib.hid CA
  have CBh := Lib.hid CB
  obtain ⟨na0, na1, na2⟩ := CA
  obtain ⟨nb0, nb1, nb2⟩ := CB
  go_wp2_with fail
  go_region_held3 (fun w' => (w'.cell? ⟨w.heap.size, 0, none⟩ = some (.bool a.neg) ∧ w'.cell? ⟨w.heap.size, 1, none⟩ = some (.string (dStr a.i)) ∧ w'.cell? ⟨w.heap.size, 2, none⟩ = some (.string (dStr a.f))) ∧ (w'.cell? ⟨w.heap.size + 1, 0, none⟩ = some (.bool b.neg) ∧ w'.cell? ⟨w.heap.size + 1, 1, none⟩ = some (.string (dStr b.i)) ∧ w'.cell? ⟨w.heap.size + 1, 2, none⟩ = some (.string (dStr b.f))))
    (first
      | exact ⟨⟨na0, na1, na2⟩, ⟨nb0, nb1, nb2⟩⟩
      | (have t := CAh.out.keep hb5 (by omega); have u := CBh.out.keep hb5 (by omega); exact ⟨⟨t.1, t.2.1, t.2.2⟩, ⟨u.1, u.2.1, u.2.2⟩⟩)
      | (have t := CAh.out.keep hb4 (by omega); have u := CBh.out.keep hb4 (by omega); exact ⟨⟨t.1, t.2.1, t.2.2⟩, ⟨u.1, u.2.1, u.2.2⟩⟩)
      | (have t := CAh.out.keep (undrew hbA) (by omega); have u := CBh.out.keep (undrew hbA) (by omega); exact ⟨⟨t.1, t.2.1, t.2.2⟩, ⟨u.1, u.2.1, u.2.2⟩⟩)
      | go_keep)
    (first
      | (go_at_call 56; (with_reducible refine (DA.out _).mono ?_); rintro e wA ⟨rfl, hbA⟩)
      | (go_at_call 56; (with_reducible refine (DB.out _).mono ?_); rintro e wB ⟨rfl, hbB⟩
         have hb4 : Below wC.heap.size wC wB := (undrew hbA).trans (hbB.mono (undrew hbA).size)))
  obtain ⟨na0, na1, na2⟩ := CAh.out.keep hb4 (by omega)
  obtain ⟨nb0, nb1, nb2⟩ := CBh.out.keep hb4 (by omega)
  have CR5 := Lib.hid (CR.out.keep hb4 (by omega))
  have FR5 := Lib.hid (frozen_keep FR.out hb4 (by omega))
  have hz5 : w.heap.size + 3 ≤ wB.heap.size := by have := hb4.size; omega
  have B5 := Lib.hid (B3.out.trans (hb4.mono B3.out.size))
  clear hb4
  go_wp2_with fail
  (with_reducible refine (DC.out _).mono ?_)
  rintro e wE ⟨rfl, rfl⟩
  go_wp2_with fail
  go_region_held3 (fun w' => w'.cell? ⟨w.heap.size, 0, none⟩ = some (.bool a.neg))
    (first | exact na0 | exact (hb9.cell (p := ⟨w.heap.size, 0, none⟩) (by show w.heap.size < wB.heap.size; omega)).trans na0 | exact ((undrew hbF).cell (p := ⟨w.heap.size, 0, none⟩) (by show w.heap.size < wB.heap.size; omega)).trans na0 | exact (far3 _ _ _ _ _ _ _ (by omega)).trans ((hb9.cell (p := ⟨w.heap.size, 0, none⟩) (by show w.heap.size < wB.heap.size; omega)).trans na0) | go_keep)
    (first
      | (go_at_call 93; (with_reducible refine (DP.out _).mono ?_); rintro e wF ⟨rfl, hbF⟩)
      | (go_at_call 62; (with_reducible refine (DM.out _).mono ?_); rintro e wG ⟨rfl, hbG⟩
         have hb9 : Below wB.heap.size wB wG := (undrew hbF).trans (hbG.mono (undrew hbF).size)
         obtain ⟨r0, r1, r2⟩ := CR5.out.keep hb9 (by omega)
         have z0 := frozen_keep FR5.out hb9 (by omega)
         have B7 := Lib.hid (B5.out.trans (hb9.mono B5.out.size))))
  obtain ⟨e0, e1, e2⟩ := res_cells r0 r1 r2 (.bool (oN o)) (.string (oI o)) (.string (oF o))
  go_wp2
  exact bodyPost_ret (v := .tuple #[.agg #[.bool (oN o), .string (oI o), .string (oF o)], .int .i64 (oE o)]) (by simp [results, Try.results58, go_sem, e0, e1, e2]) rfl ⟨rfl, res_below B7.out (by omega) _ _ _⟩

set_option maxHeartbeats 4000000 in
set_option maxRecDepth 100000 in
theorem refSum_second (a b : Dc) (less ng : Bool) (s : Nat) (w : World) (o : Option Dc) (hs : s = (max a.f.length b.f.length)) (ha : a.Ok) (hb : b.Ok) (hg : (b.neg == less) = !ng) (hn : a.neg ≠ ng) (hle : a.raised s < b.raised s) (ho : mkN ng (b.raised s - a.raised s) s = o) :
    Calls Try.prog 58 #[.agg #[.bool a.neg, .string (dStr a.i), .string (dStr a.f)], .agg #[.bool b.neg, .string (dStr b.i), .string (dStr b.f)], .bool less] w fun r w' => r = .returned (.tuple #[.agg #[.bool (oN o), .string (oI o), .string (oF o)], .int .i64 (oE o)]) ∧ Below w.heap.size w w' := by
  have D1 := Lib.hid (fun wx => refCheck_ok a wx ha)
  have D2 := Lib.hid (fun wx => refCheck_ok b wx hb)
  have DF := Lib.hid (first_fresh 0 0 0 rfl)
  have s1 : a.f.length ≤ s := by omega
  have s2 : b.f.length ≤ s := by omega
  have s3 : s ≤ 40 := by have := ha.most; have := hb.most; omega
  have R1 := (digs_le (a.raised s) (40 + s) (by omega)).2 (raised_lt a 40 s ha.fm (by have := ha.most; omega) s1)
  have R2 := (digs_le (b.raised s) (40 + s) (by omega)).2 (raised_lt b 40 s hb.fm (by have := hb.most; omega) s2)
  have DA := Lib.hid (fun wx => refRaised_any a s wx ha s1 (by omega))
  have DB := Lib.hid (fun wx => refRaised_any b s wx hb s2 (by omega))
  have sfa : (dStr a.f).size = a.f.length := dStr_size a.f
  have sfb : (dStr b.f).size = b.f.length := dStr_size b.f
  have qs : (if a.f.length < b.f.length then (b.f.length : Int) else (a.f.length : Int)) = (s : Int) := by rw [hs]; split <;> omega
  have X1 := raised_lt a 40 s ha.fm (by have := ha.most; omega) s1
  have X2 := raised_lt b 40 s hb.fm (by have := hb.most; omega) s2
  have LV : (digs (b.raised s - a.raised s)).length ≤ 100 := by
    have := (digs_le (b.raised s - a.raised s) (40 + s + 1) (by omega)).2 (Nat.lt_of_le_of_lt (Nat.sub_le _ _) (Nat.lt_of_lt_of_le X2 (Nat.pow_le_pow_right (by omega) (by omega))))
    omega
  have DP := Lib.hid (fun wx => refMinus_any (b.raised s) (a.raised s) wx (Nat.le_of_lt hle) (by omega) (by omega))
  have qa : (a.neg == ng) = false := by simpa using hn
  have DM : Hid (∀ (wx : World), Calls Try.prog 62 #[.bool ng, .string (dStr (digs (b.raised s - a.raised s))), .int .i64 (s : Int)] wx fun r w' => r = .returned (.tuple #[.agg #[.bool (oN o), .string (oI o), .string (oF o)], .int .i64 (oE o)]) ∧ Below wx.heap.size wx w') :=
    fun wx => refMake_any ng (digs (b.raised s - a.raised s)) s wx o (by rw [dVal_digs]; exact ho) (digs_digs _) (by omega) (by omega)
  have DC := Lib.hid (fun wx => refCmp_any (a.raised s) (b.raised s) wx (by omega) (by omega))
  have qk : decide (0 ≤ cmpN (a.raised s) (b.raised s)) = false := decide_eq_false (by unfold cmpN; repeat' split; all_goals omega)
  generalize cmpN (a.raised s) (b.raised s) = kk at *
  generalize hval : (b.raised s - a.raised s) = vv at *
  generalize hra : a.raised s = ra at *
  generalize hrb : b.raised s = rb at *
  clear ha hb hs s1 s2 s3 R1 R2 X1 X2 LV hn ho hval hra hrb hle
  go_enter Try.func58, Try.ntmps58
  go_wp2_with fail
  obtain ⟨W2, hW2⟩ : ∃ W2, W2 = ((w.alloc (.cells #[.bool a.neg, .string (dStr a.i), .string (dStr a.f)] 23)).alloc (.cells #[.bool b.neg, .string (dStr b.i), .string (dStr b.f)] 23)).alloc (.cells #[.bool false, .string ⟨#[]⟩, .string ⟨#[]⟩] 23) := ⟨_, rfl⟩
  obtain ⟨hb2, hz2, CA, CB, CR, FR⟩ : Below w.heap.size w W2 ∧ w.heap.size + 3 ≤ W2.heap.size ∧ Cells3 W2 w.heap.size (.bool a.neg) (.string (dStr a.i)) (.string (dStr a.f)) ∧ Cells3 W2 (w.heap.size + 1) (.bool b.neg) (.string (dStr b.i)) (.string (dStr b.f)) ∧ Cells3 W2 (w.heap.size + 2) (.bool false) (.string ⟨#[]⟩) (.string ⟨#[]⟩) ∧ ∀ i, W2.frozen? ⟨w.heap.size + 2, i, none⟩ = false := by rw [hW2]; exact ⟨below_three w _ _ _, three_boxes w _ _ _ _ _ _ _ _ _ _⟩
  rw [← hW2]
  clear hW2
  have CAh := Lib.hid CA
  have CBh := Lib.hid CB
  obtain ⟨na0, na1, na2⟩ := CA
  obtain ⟨nb0, nb1, nb2⟩ := CB
  have B2 := Lib.hid hb2
  clear hb2
  go_region_held3 (fun w' => (w'.cell? ⟨w.heap.size, 0, none⟩ = some (.bool a.neg) ∧ w'.cell? ⟨w.heap.size, 1, none⟩ = some (.string (dStr a.i)) ∧ w'.cell? ⟨w.heap.size, 2, none⟩ = some (.string (dStr a.f))) ∧ (w'.cell? ⟨w.heap.size + 1, 0, none⟩ = some (.bool b.neg) ∧ w'.cell? ⟨w.heap.size + 1, 1, none⟩ = some (.string (dStr b.i)) ∧ w'.cell? ⟨w.heap.size + 1, 2, none⟩ = some (.string (dStr b.f))))
    (first
      | exact ⟨⟨na0, na1, na2⟩, ⟨nb0, nb1, nb2⟩⟩
      | (have t := CAh.out.keep hb5 (by omega); have u := CBh.out.keep hb5 (by omega); exact ⟨⟨t.1, t.2.1, t.2.2⟩, ⟨u.1, u.2.1, u.2.2⟩⟩)
      | (have t := CAh.out.keep hb4 (by omega); have u := CBh.out.keep hb4 (by omega); exact ⟨⟨t.1, t.2.1, t.2.2⟩, ⟨u.1, u.2.1, u.2.2⟩⟩)
      | (have t := CAh.out.keep (undrew hbA) (by omega); have u := CBh.out.keep (undrew hbA) (by omega); exact ⟨⟨t.1, t.2.1, t.2.2⟩, ⟨u.1, u.2.1, u.2.2⟩⟩)
      | go_keep)
    (first
      | (go_at_call 54; (with_reducible refine (D1.out _).mono ?_); rintro e wA ⟨rfl, hbA⟩)
      | (go_at_call 54; (with_reducible refine (D2.out _).mono ?_); rintro e wB ⟨rfl, hbB⟩
         have hb4 : Below W2.heap.size W2 wB := (undrew hbA).trans (hbB.mono (undrew hbA).size))
      | (go_at_call 53; (with_reducible refine (DF.out _ _ ?_).mono ?_); (focus rfl); rintro e wC ⟨rfl, hbC⟩
         have hb5 : Below W2.heap.size W2 wC := hb4.trans (hbC.mono hb4.size)))
  have CA := CAh.out.keep hb5 (by omega)
  have CB := CBh.out.keep hb5 (by omega)
  have CR := Lib.hid (CR.keep hb5 (by omega))
  have FR := Lib.hid (frozen_keep FR hb5 (by omega))
  have hz3 : w.heap.size + 3 ≤ wC.heap.size := by have := hb5.size; omega
  have B3 := Lib.hid (B2.out.trans (hb5.mono B2.out.size))
  clear hb4 hb5 hbC hbA hbB na0 na1 na2 nb0 nb1 nb2 CAh CBh B2
  have CAh := Lib.hid CA
  have CBh := Lib.hid CB
  obtain ⟨na0, na1, na2⟩ := CA
  obtain ⟨nb0, nb1, nb2⟩ := CB
  go_wp2_with fail
  go_region_held3 (fun w' => (w'.cell? ⟨w.heap.size, 0, none⟩ = some (.bool a.neg) ∧ w'.cell? ⟨w.heap.size, 1, none⟩ = some (.string (dStr a.i)) ∧ w'.cell? ⟨w.heap.size, 2, none⟩ = some (.string (dStr a.f))) ∧ (w'.cell? ⟨w.heap.size + 1, 0, none⟩ = some (.bool b.neg) ∧ w'.cell? ⟨w.heap.size + 1, 1, none⟩ = some (.string (dStr b.i)) ∧ w'.cell? ⟨w.heap.size + 1, 2, none⟩ = some (.string (dStr b.f))))
    (first
      | exact ⟨⟨na0, na1, na2⟩, ⟨nb0, nb1, nb2⟩⟩
      | (have t := CAh.out.keep hb5 (by omega); have u := CBh.out.keep hb5 (by omega); exact ⟨⟨t.1, t.2.1, t.2.2⟩, ⟨u.1, u.2.1, u.2.2⟩⟩)
      | (have t := CAh.out.keep hb4 (by omega); have u := CBh.out.keep hb4 (by omega); exact ⟨⟨t.1, t.2.1, t.2.2⟩, ⟨u.1, u.2.1, u.2.2⟩⟩)
      | (have t := CAh.out.keep (undrew hbA) (by omega); have u := CBh.out.keep (undrew hbA) (by omega); exact ⟨⟨t.1, t.2.1, t.2.2⟩, ⟨u.1, u.2.1, u.2.2⟩⟩)
      | go_keep)
    (first
      | (go_at_call 56; (with_reducible refine (DA.out _).mono ?_); rintro e wA ⟨rfl, hbA⟩)
      | (go_at_call 56; (with_reducible refine (DB.out _).mono ?_); rintro e wB ⟨rfl, hbB⟩
         have hb4 : Below wC.heap.size wC wB := (undrew hbA).trans (hbB.mono (undrew hbA).size)))
  obtain ⟨na0, na1, na2⟩ := CAh.out.keep hb4 (by omega)
  obtain ⟨nb0, nb1, nb2⟩ := CBh.out.keep hb4 (by omega)
  have CR5 := Lib.hid (CR.out.keep hb4 (by omega))
  have FR5 := Lib.hid (frozen_keep FR.out hb4 (by omega))
  have hz5 : w.heap.size + 3 ≤ wB.heap.size := by have := hb4.size; omega
  have B5 := Lib.hid (B3.out.trans (hb4.mono B3.out.size))
  clear hb4
  go_wp2_with fail
  (with_reducible refine (DC.out _).mono ?_)
  rintro e wE ⟨rfl, rfl⟩
  go_wp2_with fail
  (with_reducible refine (DP.out _).mono ?_)
  rintro e wF ⟨rfl, hbF⟩
  have CR6 := Lib.hid (CR5.out.keep hbF (by omega))
  have FR6 := Lib.hid (frozen_keep FR5.out hbF (by omega))
  have hz6 : w.heap.size + 3 ≤ wF.heap.size := by have := hbF.size; omega
  have B6 := Lib.hid (B5.out.trans (hbF.mono B5.out.size))
  clear hbF
  go_wp2_with fail
  (with_reducible refine (DM.out _).mono ?_)
  rintro e wG ⟨rfl, hbG⟩
  obtain ⟨r0, r1, r2⟩ := CR6.out.keep hbG (by omega)
  have z0 := frozen_keep FR6.out hbG (by omega)
  have B7 := Lib.hid (B6.out.trans (hbG.mono B6.out.size))
  obtain ⟨e0, e1, e2⟩ := res_cells r0 r1 r2 (.bool (oN o)) (.string (oI o)) (.string (oF o))
  go_wp2
  exact bodyPost_ret (v := .tuple #[.agg #[.bool (oN o), .string (oI o), .string (oF o)], .int .i64 (oE o)]) (by simp [results, Try.results58, go_sem, e0, e1, e2]) rfl ⟨rfl, res_below B7.out (by omega) _ _ _⟩

set_option maxHeartbeats 2000000 in
set_option maxRecDepth 100000 in
theorem refAdd_of (na nb : Bool) (ia fa ib fb : ByteArray) (rn : Bool) (ri rf : ByteArray) (c : Int) (w : World) (HS : ∀ wx : World, Calls Try.prog 58 #[.agg #[.bool na, .string ia, .string fa], .agg #[.bool nb, .string ib, .string fb], .bool false] wx fun r w' => r = .returned (.tuple #[.agg #[.bool rn, .string ri, .string rf], .int .i64 c]) ∧ Below wx.heap.size wx w') :
    Calls Try.prog 19 #[.agg #[.bool na, .string ia, .string fa], .agg #[.bool nb, .string ib, .string fb]] w fun r w' => r = .returned (.tuple #[.agg #[.bool rn, .string ri, .string rf], .int .i64 c]) ∧ Below w.heap.size w w' := by
  have DS := Lib.hid HS
  clear HS
  go_enter Try.func19, Try.ntmps19
  go_wp2_with fail
  obtain ⟨W2, hW2⟩ : ∃ W2, W2 = ((w.alloc (.cells #[.bool na, .string ia, .string fa] 23)).alloc (.cells #[.bool nb, .string ib, .string fb] 23)).alloc (.cells #[.bool false, .string ⟨#[]⟩, .string ⟨#[]⟩] 23) := ⟨_, rfl⟩
  obtain ⟨hb2, hz2, CA, CB, CR, FR⟩ : Below w.heap.size w W2 ∧ w.heap.size + 3 ≤ W2.heap.size ∧ Cells3 W2 w.heap.size (.bool na) (.string ia) (.string fa) ∧ Cells3 W2 (w.heap.size + 1) (.bool nb) (.string ib) (.string fb) ∧ Cells3 W2 (w.heap.size + 2) (.bool false) (.string ⟨#[]⟩) (.string ⟨#[]⟩) ∧ ∀ i, W2.frozen? ⟨w.heap.size + 2, i, none⟩ = false := by rw [hW2]; exact ⟨below_three w _ _ _, three_boxes w _ _ _ _ _ _ _ _ _ _⟩
  rw [← hW2]
  clear hW2
  (with_reducible refine (DS.out _).mono ?_)
  rintro e3 W3 ⟨rfl, hb3⟩
  obtain ⟨r0, r1, r2⟩ := CR.keep hb3 (by omega)
  have z0 := frozen_keep FR hb3 (by omega)
  have B3 := Lib.hid (hb2.trans (hb3.mono hb2.size))
  obtain ⟨e0, e1, e2⟩ := res_cells r0 r1 r2 (.bool rn) (.string ri) (.string rf)
  clear hb3 hb2 CA CB CR FR
  go_wp2
  exact bodyPost_ret (v := .tuple #[.agg #[.bool rn, .string ri, .string rf], .int .i64 c]) (by simp [results, Try.results19, go_sem, e0, e1, e2]) rfl ⟨rfl, res_below B3.out (by omega) _ _ _⟩

set_option maxHeartbeats 2000000 in
set_option maxRecDepth 100000 in
theorem refSub_of (na nb : Bool) (ia fa ib fb : ByteArray) (rn : Bool) (ri rf : ByteArray) (c : Int) (w : World) (HS : ∀ wx : World, Calls Try.prog 58 #[.agg #[.bool na, .string ia, .string fa], .agg #[.bool nb, .string ib, .string fb], .bool true] wx fun r w' => r = .returned (.tuple #[.agg #[.bool rn, .string ri, .string rf], .int .i64 c]) ∧ Below wx.heap.size wx w') :
    Calls Try.prog 22 #[.agg #[.bool na, .string ia, .string fa], .agg #[.bool nb, .string ib, .string fb]] w fun r w' => r = .returned (.tuple #[.agg #[.bool rn, .string ri, .string rf], .int .i64 c]) ∧ Below w.heap.size w w' := by
  have DS := Lib.hid HS
  clear HS
  go_enter Try.func22, Try.ntmps22
  go_wp2_with fail
  obtain ⟨W2, hW2⟩ : ∃ W2, W2 = ((w.alloc (.cells #[.bool na, .string ia, .string fa] 23)).alloc (.cells #[.bool nb, .string ib, .string fb] 23)).alloc (.cells #[.bool false, .string ⟨#[]⟩, .string ⟨#[]⟩] 23) := ⟨_, rfl⟩
  obtain ⟨hb2, hz2, CA, CB, CR, FR⟩ : Below w.heap.size w W2 ∧ w.heap.size + 3 ≤ W2.heap.size ∧ Cells3 W2 w.heap.size (.bool na) (.string ia) (.string fa) ∧ Cells3 W2 (w.heap.size + 1) (.bool nb) (.string ib) (.string fb) ∧ Cells3 W2 (w.heap.size + 2) (.bool false) (.string ⟨#[]⟩) (.string ⟨#[]⟩) ∧ ∀ i, W2.frozen? ⟨w.heap.size + 2, i, none⟩ = false := by rw [hW2]; exact ⟨below_three w _ _ _, three_boxes w _ _ _ _ _ _ _ _ _ _⟩
  rw [← hW2]
  clear hW2
  (with_reducible refine (DS.out _).mono ?_)
  rintro e3 W3 ⟨rfl, hb3⟩
  obtain ⟨r0, r1, r2⟩ := CR.keep hb3 (by omega)
  have z0 := frozen_keep FR hb3 (by omega)
  have B3 := Lib.hid (hb2.trans (hb3.mono hb2.size))
  obtain ⟨e0, e1, e2⟩ := res_cells r0 r1 r2 (.bool rn) (.string ri) (.string rf)
  clear hb3 hb2 CA CB CR FR
  go_wp2
  exact bodyPost_ret (v := .tuple #[.agg #[.bool rn, .string ri, .string rf], .int .i64 c]) (by simp [results, Try.results22, go_sem, e0, e1, e2]) rfl ⟨rfl, res_below B3.out (by omega) _ _ _⟩

theorem refSum_add (a b : Dc) (w : World) (ha : a.Ok) (hb : b.Ok) : Calls Try.prog 58 #[.agg #[.bool a.neg, .string (dStr a.i), .string (dStr a.f)], .agg #[.bool b.neg, .string (dStr b.i), .string (dStr b.f)], .bool false] w fun r w' => r = .returned (.tuple #[.agg #[.bool (oN (sumD a b)), .string (oI (sumD a b)), .string (oF (sumD a b))], .int .i64 (oE (sumD a b))]) ∧ Below w.heap.size w w' := by
  obtain ⟨s, hs⟩ : ∃ s, s = max a.f.length b.f.length := ⟨_, rfl⟩
  have hg : (b.neg == false) = !b.neg := by cases b.neg <;> rfl
  by_cases hn : a.neg = b.neg
  · exact refSum_same a b false b.neg s w _ hs ha hb hg hn (sum_same hs hn)
  · rcases Nat.lt_or_ge (a.raised s) (b.raised s) with h | h
    · exact refSum_second a b false b.neg s w _ hs ha hb hg hn h (sum_second hs hn (Nat.le_of_lt h))
    · exact refSum_first a b false b.neg s w _ hs ha hb hg hn h (sum_first hs hn h)
theorem refSum_sub (a b : Dc) (w : World) (ha : a.Ok) (hb : b.Ok) : Calls Try.prog 58 #[.agg #[.bool a.neg, .string (dStr a.i), .string (dStr a.f)], .agg #[.bool b.neg, .string (dStr b.i), .string (dStr b.f)], .bool true] w fun r w' => r = .returned (.tuple #[.agg #[.bool (oN (subD a b)), .string (oI (subD a b)), .string (oF (subD a b))], .int .i64 (oE (subD a b))]) ∧ Below w.heap.size w w' := by
  obtain ⟨s, hs⟩ : ∃ s, s = max a.f.length b.f.length := ⟨_, rfl⟩
  have hg : (b.neg == true) = !!b.neg := by cases b.neg <;> rfl
  by_cases hn : a.neg = b.neg
  · have hn2 : a.neg ≠ !b.neg := by rw [hn]; cases b.neg <;> decide
    rcases Nat.lt_or_ge (a.raised s) (b.raised s) with h | h
    · exact refSum_second a b true (!b.neg) s w _ hs ha hb hg hn2 h (sub_second hs hn (Nat.le_of_lt h))
    · exact refSum_first a b true (!b.neg) s w _ hs ha hb hg hn2 h (sub_first hs hn h)
  · have hn2 : a.neg = !b.neg := by cases ha1 : a.neg <;> cases hb1 : b.neg <;> simp_all
    have := sub_same hs hn
    rw [hn2] at this
    exact refSum_same a b true (!b.neg) s w _ hs ha hb hg hn2 this

end Go.Proofs.Ytmaljkjcibdbgaa
