/- The reference's Parse. -/
import Derived.Test.YtmaljkjcibdbgaaDRefParseM
import Derived.Test.YtmaljkjcibdbgaaDTold
import Derived.Deep.DeepCutAuto
namespace Go.Proofs.Ytmaljkjcibdbgaa
open Go.RowKit
attribute [local go_sem ↓] Go.wp_at_zero Go.wp_at_succ

set_option maxHeartbeats 8000000 in
set_option maxRecDepth 100000 in
theorem refParse_plain (t : ByteArray) (w : World) (hs : ¬ 65536 < t.size) (h : spN t = false) (hp : 0 < t.size) :
    Calls Try.prog 14 #[.string t] w fun e w' => e = .returned (.tuple #[.agg #[.bool (psN t), .string (psI t), .string (psF t)], .int .i64 (psE t)]) ∧ Below w.heap.size w w' := by
  have HSN := Lib.hid h
  have h45 : byteN t 0 ≠ 45 := fun e => by have := of_decide_eq_false h; exact this ⟨by omega, e⟩
  rw [← byteN_at t 0 hp] at h45
  have q : ((t[0].toNat : Int) == 45) = false := by rw [beq_eq_false_iff_ne]; omega
  have q0 : decide (0 < (t.size : Int)) = true := decide_eq_true (by omega)
  have hts : t.size = t.size := rfl
  have HTT : Hid (spT t = t) := by show _ = _; unfold spT; rw [if_neg (by rw [h]; decide)]
  clear h h45
  have HNL := Lib.hid hs
  have q65 : decide ((65536 : Int) < (t.size : Int)) = false := decide_eq_false (by omega)
  have hsz : t.size ≤ 65536 := by omega
  have HTS := Lib.hid hts
  clear hs hts
  go_enter Try.func14, Try.ntmps14
  go_wp2
  obtain ⟨W2, hW2⟩ : ∃ W2, W2 = (w.alloc (.cells #[.bool false, .string ⟨#[]⟩, .string ⟨#[]⟩] 23)).alloc (.cells #[.bool false, .string ⟨#[]⟩, .string ⟨#[]⟩] 23) := ⟨_, rfl⟩
  obtain ⟨hb2, hz2, CR, CD, FD⟩ : Below w.heap.size w W2 ∧ w.heap.size + 2 ≤ W2.heap.size ∧ Cells3 W2 w.heap.size (.bool false) (.string ⟨#[]⟩) (.string ⟨#[]⟩) ∧ Cells3 W2 (w.heap.size + 1) (.bool false) (.string ⟨#[]⟩) (.string ⟨#[]⟩) ∧ ∀ i, W2.frozen? ⟨w.heap.size + 1, i, none⟩ = false := by rw [hW2]; exact ⟨below_two w _ _, two_boxes w _ _ _ _ _ _ _⟩
  have FR : ∀ i, W2.frozen? ⟨w.heap.size, i, none⟩ = false := by
    rw [hW2]
    exact frozen_keep (one_box w (.bool false) (.string ⟨#[]⟩) (.string ⟨#[]⟩) 23).2.2 ((Below.refl _ _).alloc (Nat.le_refl _) _) (by simp)
  rw [← hW2]
  clear hW2
  have CR2 := Lib.hid CR
  have CD2 := Lib.hid CD
  have FR2 := Lib.hid FR
  have FD2 := Lib.hid FD
  have B2 := Lib.hid hb2
  clear CR CD FR FD hb2
  go_loop [5] (fun i => ∃ k : Nat, i = .int .i64 k ∧ k ≤ t.size ∧ ∀ j, j < k → 48 ≤ byteN t j ∧ byteN t j ≤ 57) (fun i => t.size - (intOf i).toNat)
  case atStart => exact ⟨0, rfl, by omega, fun j hj => by omega⟩
  case round =>
    obtain ⟨k, rfl, hk, hD⟩ := hrel
    have HD := Lib.hid hD
    clear hD
    by_cases hlt : k < t.size
    · have HK := Lib.hid (byteN_at t k hlt)
      by_cases hd : digB (t[k].toNat : Int) = true
      · go_wp2_with (go_at_call 46; refine (digit_any _ _).mono ?_; rintro e w' ⟨rfl, rfl⟩)
        go_round
        case rel =>
          refine ⟨k + 1, by go_num, by omega, fun j hj => ?_⟩
          by_cases e : j = k
          · subst e
            have := of_decide_eq_true hd
            rw [← HK.out]
            omega
          · exact HD.out j (by omega)
        case measure => simp [intOf]; omega
      · have hd' : digB (t[k].toNat : Int) = false := by simpa using hd
        have HND : Hid (nD t = k) := nD_of t k hk HD.out (.inr (by have := of_decide_eq_false hd'; rw [← HK.out]; omega))
        clear hd
        obtain ⟨I, hI⟩ : ∃ I, I = t.extract 0 k := ⟨_, rfl⟩
        have HI := Lib.hid hI
        have HIZ : Hid (I.size = k) := by show _ = _; rw [hI, ByteArray.size_extract]; omega
        obtain ⟨dd0, dd1, dd2⟩ := CD2.out
        have fd := FD2.out
        clear hI
        by_cases h46 : t[k].toNat = 46
        · have q46 : ((t[k].toNat : Int) != 46) = false := by rw [h46]; rfl
          have HB46 : Hid (byteN t k = 46) := by show _ = _; rw [← HK.out]; exact h46
          have wk : IntKind.i64.wrap ((k : Int) + 1) = (k : Int) + 1 := IntWalk.i64_in _ (by omega)
          clear h46
          by_cases hend : k + 1 = t.size
          · have HP : Hid (psR t = (⟨false, [], []⟩, 20)) := ps_none t HNL.out (by rw [HTT.out, HND.out]; exact hlt) (by rw [HTT.out, HND.out]; exact .inr hend)
            have qe : ((k : Int) + 1 == (t.size : Int)) = true := by simp; omega
            obtain ⟨F, HFE⟩ : ∃ F : ByteArray, Hid (F = ⟨#[]⟩) := ⟨⟨#[]⟩, rfl⟩
            clear hend
            go_upto_region 13 with (go_at_call 46; refine (digit_any _ _).mono ?_; rintro e w' ⟨rfl, rfl⟩)
            obtain ⟨W3, hW3⟩ : ∃ W3, W3 = W2.setCell ⟨w.heap.size + 1, 1, none⟩ (.string (t.extract 0 k)) := ⟨_, rfl⟩
            have k0 : W3.cell? ⟨w.heap.size + 1, 0, none⟩ = some (.bool false) := by rw [hW3]; exact cell_set_far _ _ _ _ _ _ (by decide) CD2.out.1
            have k1 : W3.cell? ⟨w.heap.size + 1, 1, none⟩ = some (.string I) := by rw [hW3, HI.out]; exact cell_set_same _ _ _ _ CD2.out.2.1
            have k2 : W3.cell? ⟨w.heap.size + 1, 2, none⟩ = some (.string F) := by rw [hW3, HFE.out]; exact cell_set_far _ _ _ _ _ _ (by decide) CD2.out.2.2
            have fa : ∀ i, W3.cell? ⟨w.heap.size, i, none⟩ = W2.cell? ⟨w.heap.size, i, none⟩ := fun i => by
              rw [hW3]
              exact (World.cell?_setCell_other _ _ _ _ (fun e => by have := congrArg Addr.block e; simp at this))
            have CRh : Hid (Cells3 W3 w.heap.size (.bool false) (.string ⟨#[]⟩) (.string ⟨#[]⟩)) := ⟨(fa 0).trans CR2.out.1, (fa 1).trans CR2.out.2.1, (fa 2).trans CR2.out.2.2⟩
            have FRh : Hid (∀ i, W3.frozen? ⟨w.heap.size, i, none⟩ = false) := fun i => by rw [hW3]; simpa using FR2.out i
            have CDh : Hid (Cells3 W3 (w.heap.size + 1) (.bool false) (.string I) (.string F)) := ⟨k0, k1, k2⟩
            have B3 : Hid (Below w.heap.size w W3) := by
              show Below _ _ _
              rw [hW3]
              exact B2.out.setCell (p := ⟨w.heap.size + 1, 1, none⟩) (Nat.le_succ _) _
            have hz3 : w.heap.size + 2 ≤ W3.heap.size := by rw [hW3]; simpa [World.setCell] using hz2
            rw [← hW3]
            clear hW3 k0 k1 k2 fa dd0 dd1 dd2 fd
            obtain ⟨r0, r1, r2⟩ := CRh.out
            have z0 := FRh.out
            obtain ⟨e0, e1, e2⟩ := res_cells r0 r1 r2 (.bool false) (.string ⟨#[]⟩) (.string ⟨#[]⟩)
            go_wp2
            exact bodyPost_ret (v := .tuple #[.agg #[.bool false, .string ⟨#[]⟩, .string ⟨#[]⟩], .int .i64 20]) (by simp [results, Try.results14, go_sem, e0, e1, e2]) rfl ⟨by rw [ps_zero t 20 HP.out], res_below B3.out (by omega) _ _ _⟩
          · have qe : ((k : Int) + 1 == (t.size : Int)) = false := by rw [beq_eq_false_iff_ne]; omega
            obtain ⟨F, hF⟩ : ∃ F : ByteArray, F = t.extract (k + 1) t.size := ⟨_, rfl⟩
            have HFE := Lib.hid hF
            have HFZ : Hid (F.size ≤ 65536) := by show _ ≤ _; rw [hF, ByteArray.size_extract]; omega
            have HFF : Hid ((k = t.size ∧ F = ⟨#[]⟩) ∨ (byteN t k = 46 ∧ k + 1 < t.size ∧ F = t.extract (k + 1) t.size)) := .inr ⟨HB46.out, by omega, hF⟩
            have j0 : (k : Int) + 1 ≤ (t.size : Int) := by omega
            have j1 : 0 ≤ (k : Int) + 1 := by omega
            have j2 : ((k : Int) + 1).toNat = k + 1 := by omega
            clear hend hF
            go_upto_region 15 with (go_at_call 46; refine (digit_any _ _).mono ?_; rintro e w' ⟨rfl, rfl⟩)
            obtain ⟨W3, hW3⟩ : ∃ W3, W3 = (W2.setCell ⟨w.heap.size + 1, 1, none⟩ (.string (t.extract 0 k))).setCell ⟨w.heap.size + 1, 2, none⟩ (.string (t.extract (k + 1) t.size)) := ⟨_, rfl⟩
            have k0 : W3.cell? ⟨w.heap.size + 1, 0, none⟩ = some (.bool false) := by rw [hW3]; exact cell_set_far _ _ _ _ _ _ (by decide) (cell_set_far _ _ _ _ _ _ (by decide) CD2.out.1)
            have k1 : W3.cell? ⟨w.heap.size + 1, 1, none⟩ = some (.string I) := by rw [hW3, HI.out]; exact cell_set_far _ _ _ _ _ _ (by decide) (cell_set_same _ _ _ _ CD2.out.2.1)
            have k2 : W3.cell? ⟨w.heap.size + 1, 2, none⟩ = some (.string F) := by rw [hW3, HFE.out]; exact cell_set_same _ _ _ _ (cell_set_far _ _ _ _ _ _ (by decide) CD2.out.2.2)
            have fa : ∀ i, W3.cell? ⟨w.heap.size, i, none⟩ = W2.cell? ⟨w.heap.size, i, none⟩ := fun i => by
              rw [hW3]
              exact (World.cell?_setCell_other _ _ _ _ (fun e => by have := congrArg Addr.block e; simp at this)).trans (World.cell?_setCell_other _ _ _ _ (fun e => by have := congrArg Addr.block e; simp at this))
            have CRh : Hid (Cells3 W3 w.heap.size (.bool false) (.string ⟨#[]⟩) (.string ⟨#[]⟩)) := ⟨(fa 0).trans CR2.out.1, (fa 1).trans CR2.out.2.1, (fa 2).trans CR2.out.2.2⟩
            have FRh : Hid (∀ i, W3.frozen? ⟨w.heap.size, i, none⟩ = false) := fun i => by rw [hW3]; simpa using FR2.out i
            have CDh : Hid (Cells3 W3 (w.heap.size + 1) (.bool false) (.string I) (.string F)) := ⟨k0, k1, k2⟩
            have B3 : Hid (Below w.heap.size w W3) := by
              show Below _ _ _
              rw [hW3]
              exact (B2.out.setCell (p := ⟨w.heap.size + 1, 1, none⟩) (Nat.le_succ _) _).setCell (p := ⟨w.heap.size + 1, 2, none⟩) (Nat.le_succ _) _
            have hz3 : w.heap.size + 2 ≤ W3.heap.size := by rw [hW3]; simpa [World.setCell] using hz2
            rw [← hW3]
            clear hW3 k0 k1 k2 fa dd0 dd1 dd2 fd
            clear j0 j1 j2 wk qe q46 hd'
            obtain ⟨bb, hbb⟩ : ∃ bb, bb = badB false k I F := ⟨_, rfl⟩
            have HBB := Lib.hid hbb
            have HPS : Hid (psR t = if bb = true then (⟨false, [], []⟩, 20) else if 40 < k + F.size then (⟨false, [], []⟩, 3) else (⟨false, I.data.toList, F.data.toList⟩, 0)) := by
              have := ps_some t HNL.out F (by rw [HTT.out, HND.out]; exact HFF.out)
              rw [HTT.out, HND.out, HSN.out, ← HI.out, ← hbb] at this
              exact this
            clear hbb
            have CD0 := CDh.out
            obtain ⟨d0, d1, d2⟩ := CD0
            have IZ := HIZ.out
            have FZ := HFZ.out
            go_cut [84] (fun sx wx => sx = .bool bb ∧ Below W3.heap.size W3 wx)
            case first =>
              by_cases h0 : k = 0
              · have hb : bb = true := by rw [HBB.out]; unfold badB; rw [decide_eq_true h0]; rfl
                have q0 : ((k : Int) == 0) = true := beq_iff_eq.2 (by omega)
                have HB1 := Lib.hid hb
                clear hb h0
                go_wp2_with fail
                go_meet
                exact ⟨congrArg Value.bool HB1.out.symm, Below.refl _ _⟩
              · have hp : 0 < I.size := by omega
                have q0 : ((k : Int) == 0) = false := beq_eq_false_iff_ne.2 (by omega)
                have HK0 := Lib.hid (byteN_at I 0 hp)
                by_cases h48 : byteN I 0 = 48
                · have q48 : (((I[0]'hp).toNat : Int) == 48) = true := by rw [HK0.out, h48]; rfl
                  by_cases h1 : 1 < k
                  · have hb : bb = true := by rw [HBB.out]; unfold badB; rw [decide_eq_true h48, decide_eq_true (show 1 < I.size by omega)]; simp
                    have q1 : decide ((1 : Int) < (k : Int)) = true := decide_eq_true (by omega)
                    have HB1 := Lib.hid hb
                    clear hb h48
                    go_wp2_with fail
                    go_meet
                    exact ⟨congrArg Value.bool HB1.out.symm, Below.refl _ _⟩
                  · have q1 : decide ((1 : Int) < (k : Int)) = false := decide_eq_false (by omega)
                    have hb : bb = (!dgB F || (false && zrB I && zrB F)) := by rw [HBB.out]; unfold badB; rw [decide_eq_false h0, decide_eq_false (show ¬ 1 < I.size by omega)]; simp
                    have HB1 := Lib.hid hb
                    clear hb h48
                    have DG := Lib.hid (fun wx => digits_any F wx (by unfold maxLen; omega))
                    cases hdg : dgB F with
                    | false =>
                      have HB2 := Lib.hid (show bb = true by rw [HB1.out, hdg]; rfl)
                      rw [hdg] at DG
                      clear hdg
                      go_wp2_with fail
                      (with_reducible refine (DG.out _).mono ?_)
                      rintro e w4 ⟨rfl, rfl⟩
                      go_wp2_with fail
                      go_meet
                      exact ⟨congrArg Value.bool HB2.out.symm, Below.refl _ _⟩
                    | true =>
                      have HB2 := Lib.hid (show bb = (false && zrB I && zrB F) by rw [HB1.out, hdg]; rfl)
                      rw [hdg] at DG
                      clear hdg
                      have HB3 := Lib.hid (show bb = false by rw [HB2.out]; rfl)
                      go_wp2_with fail
                      (with_reducible refine (DG.out _).mono ?_)
                      rintro e w4 ⟨rfl, rfl⟩
                      go_wp2_with fail
                      go_meet
                      exact ⟨congrArg Value.bool HB3.out.symm, Below.refl _ _⟩
                · have q48 : (((I[0]'hp).toNat : Int) == 48) = false := by rw [HK0.out, beq_eq_false_iff_ne]; omega
                  have hb : bb = (!dgB F || (false && zrB I && zrB F)) := by rw [HBB.out]; unfold badB; rw [decide_eq_false h0, decide_eq_false h48]; simp
                  have HB1 := Lib.hid hb
                  clear hb h48
                  have DG := Lib.hid (fun wx => digits_any F wx (by unfold maxLen; omega))
                  cases hdg : dgB F with
                  | false =>
                    have HB2 := Lib.hid (show bb = true by rw [HB1.out, hdg]; rfl)
                    rw [hdg] at DG
                    clear hdg
                    go_wp2_with fail
                    (with_reducible refine (DG.out _).mono ?_)
                    rintro e w4 ⟨rfl, rfl⟩
                    go_wp2_with fail
                    go_meet
                    exact ⟨congrArg Value.bool HB2.out.symm, Below.refl _ _⟩
                  | true =>
                    have HB2 := Lib.hid (show bb = (false && zrB I && zrB F) by rw [HB1.out, hdg]; rfl)
                    rw [hdg] at DG
                    clear hdg
                    have HB3 := Lib.hid (show bb = false by rw [HB2.out]; rfl)
                    go_wp2_with fail
                    (with_reducible refine (DG.out _).mono ?_)
                    rintro e w4 ⟨rfl, rfl⟩
                    go_wp2_with fail
                    go_meet
                    exact ⟨congrArg Value.bool HB3.out.symm, Below.refl _ _⟩
            case rest =>
            obtain ⟨rfl, hb5⟩ := hcut
            replace CRh := Lib.hid (CRh.out.keep hb5 (by omega))
            replace FRh := Lib.hid (frozen_keep FRh.out hb5 (by omega))
            replace CDh := Lib.hid (CDh.out.keep hb5 (by omega))
            replace B3 := Lib.hid (B3.out.trans (hb5.mono B3.out.size))
            have hz5 : w.heap.size + 2 ≤ wc.heap.size := by have := hb5.size; omega
            clear hb5 d0 d1 d2
            have hpb : bb = true → psR t = (⟨false, [], []⟩, 20) := fun h => by rw [HPS.out, if_pos h]
            have hpl : bb = false → 40 < k + F.size → psR t = (⟨false, [], []⟩, 3) := fun h h2 => by rw [HPS.out, if_neg (by rw [h]; decide), if_pos h2]
            have hpo : bb = false → ¬ 40 < k + F.size → psR t = (⟨false, I.data.toList, F.data.toList⟩, 0) := fun h h2 => by rw [HPS.out, if_neg (by rw [h]; decide), if_neg h2]
            have HPB := Lib.hid hpb
            have HPL := Lib.hid hpl
            have HPO := Lib.hid hpo
            clear hpb hpl hpo HBB HPS
            cases bb with
            | true =>
              have HP := Lib.hid (HPB.out rfl)
              obtain ⟨r0, r1, r2⟩ := CRh.out
              have z0 := FRh.out
              obtain ⟨e0, e1, e2⟩ := res_cells r0 r1 r2 (.bool false) (.string ⟨#[]⟩) (.string ⟨#[]⟩)
              go_wp2
              exact bodyPost_ret (v := .tuple #[.agg #[.bool false, .string ⟨#[]⟩, .string ⟨#[]⟩], .int .i64 20]) (by simp [results, Try.results14, go_sem, e0, e1, e2]) rfl ⟨by rw [ps_zero t 20 HP.out], res_below B3.out (by omega) _ _ _⟩
            | false =>
              obtain ⟨d0, d1, d2⟩ := CDh.out
              by_cases h40 : 40 < k
              · have q40 : decide ((40 : Int) < (k : Int)) = true := decide_eq_true (by omega)
                have HP := Lib.hid (HPL.out rfl (by omega))
                clear h40
                obtain ⟨r0, r1, r2⟩ := CRh.out
                have z0 := FRh.out
                obtain ⟨e0, e1, e2⟩ := res_cells r0 r1 r2 (.bool false) (.string ⟨#[]⟩) (.string ⟨#[]⟩)
                go_wp2
                exact bodyPost_ret (v := .tuple #[.agg #[.bool false, .string ⟨#[]⟩, .string ⟨#[]⟩], .int .i64 3]) (by simp [results, Try.results14, go_sem, e0, e1, e2]) rfl ⟨by rw [ps_zero t 3 HP.out], res_below B3.out (by omega) _ _ _⟩
              · have q40 : decide ((40 : Int) < (k : Int)) = false := decide_eq_false (by omega)
                have wz : IntKind.i64.wrap (40 - (k : Int)) = 40 - (k : Int) := IntWalk.i64_in _ (by omega)
                by_cases h2 : 40 < k + F.size
                · have q41 : decide (40 - (k : Int) < (F.size : Int)) = true := decide_eq_true (by omega)
                  have HP := Lib.hid (HPL.out rfl h2)
                  clear h40 h2
                  obtain ⟨r0, r1, r2⟩ := CRh.out
                  have z0 := FRh.out
                  obtain ⟨e0, e1, e2⟩ := res_cells r0 r1 r2 (.bool false) (.string ⟨#[]⟩) (.string ⟨#[]⟩)
                  go_wp2
                  exact bodyPost_ret (v := .tuple #[.agg #[.bool false, .string ⟨#[]⟩, .string ⟨#[]⟩], .int .i64 3]) (by simp [results, Try.results14, go_sem, e0, e1, e2]) rfl ⟨by rw [ps_zero t 3 HP.out], res_below B3.out (by omega) _ _ _⟩
                · have q41 : decide (40 - (k : Int) < (F.size : Int)) = false := decide_eq_false (by omega)
                  have HP := Lib.hid (HPO.out rfl h2)
                  clear h40 h2
                  obtain ⟨r0, r1, r2⟩ := CRh.out
                  have z0 := FRh.out
                  obtain ⟨e0, e1, e2⟩ := res_cells r0 r1 r2 (.bool false) (.string I) (.string F)
                  have HV : Hid (Value.tuple #[.agg #[.bool false, .string I, .string F], .int .i64 0] = .tuple #[.agg #[.bool (psN t), .string (psI t), .string (psF t)], .int .i64 (psE t)]) := by
                    show _ = _
                    unfold psN psI psF psE
                    rw [HP.out]
                  go_wp2
                  exact bodyPost_ret (v := .tuple #[.agg #[.bool false, .string I, .string F], .int .i64 0]) (by simp [results, Try.results14, go_sem, e0, e1, e2]) rfl ⟨by rw [HV.out], res_below B3.out (by omega) _ _ _⟩
        · have q46 : ((t[k].toNat : Int) != 46) = true := by simp; omega
          have HP : Hid (psR t = (⟨false, [], []⟩, 20)) := ps_none t HNL.out (by rw [HTT.out, HND.out]; exact hlt) (by rw [HTT.out, HND.out]; exact .inl (by rw [← HK.out]; exact h46))
          obtain ⟨F, HFE⟩ : ∃ F : ByteArray, Hid (F = ⟨#[]⟩) := ⟨⟨#[]⟩, rfl⟩
          clear h46
          go_upto_region 13 with (go_at_call 46; refine (digit_any _ _).mono ?_; rintro e w' ⟨rfl, rfl⟩)
          obtain ⟨W3, hW3⟩ : ∃ W3, W3 = W2.setCell ⟨w.heap.size + 1, 1, none⟩ (.string (t.extract 0 k)) := ⟨_, rfl⟩
          have k0 : W3.cell? ⟨w.heap.size + 1, 0, none⟩ = some (.bool false) := by rw [hW3]; exact cell_set_far _ _ _ _ _ _ (by decide) CD2.out.1
          have k1 : W3.cell? ⟨w.heap.size + 1, 1, none⟩ = some (.string I) := by rw [hW3, HI.out]; exact cell_set_same _ _ _ _ CD2.out.2.1
          have k2 : W3.cell? ⟨w.heap.size + 1, 2, none⟩ = some (.string F) := by rw [hW3, HFE.out]; exact cell_set_far _ _ _ _ _ _ (by decide) CD2.out.2.2
          have fa : ∀ i, W3.cell? ⟨w.heap.size, i, none⟩ = W2.cell? ⟨w.heap.size, i, none⟩ := fun i => by
            rw [hW3]
            exact (World.cell?_setCell_other _ _ _ _ (fun e => by have := congrArg Addr.block e; simp at this))
          have CRh : Hid (Cells3 W3 w.heap.size (.bool false) (.string ⟨#[]⟩) (.string ⟨#[]⟩)) := ⟨(fa 0).trans CR2.out.1, (fa 1).trans CR2.out.2.1, (fa 2).trans CR2.out.2.2⟩
          have FRh : Hid (∀ i, W3.frozen? ⟨w.heap.size, i, none⟩ = false) := fun i => by rw [hW3]; simpa using FR2.out i
          have CDh : Hid (Cells3 W3 (w.heap.size + 1) (.bool false) (.string I) (.string F)) := ⟨k0, k1, k2⟩
          have B3 : Hid (Below w.heap.size w W3) := by
            show Below _ _ _
            rw [hW3]
            exact B2.out.setCell (p := ⟨w.heap.size + 1, 1, none⟩) (Nat.le_succ _) _
          have hz3 : w.heap.size + 2 ≤ W3.heap.size := by rw [hW3]; simpa [World.setCell] using hz2
          rw [← hW3]
          clear hW3 k0 k1 k2 fa dd0 dd1 dd2 fd
          obtain ⟨r0, r1, r2⟩ := CRh.out
          have z0 := FRh.out
          obtain ⟨e0, e1, e2⟩ := res_cells r0 r1 r2 (.bool false) (.string ⟨#[]⟩) (.string ⟨#[]⟩)
          go_wp2
          exact bodyPost_ret (v := .tuple #[.agg #[.bool false, .string ⟨#[]⟩, .string ⟨#[]⟩], .int .i64 20]) (by simp [results, Try.results14, go_sem, e0, e1, e2]) rfl ⟨by rw [ps_zero t 20 HP.out], res_below B3.out (by omega) _ _ _⟩
    · obtain rfl : k = t.size := by omega
      have HND : Hid (nD t = t.size) := nD_of t t.size (Nat.le_refl _) HD.out (.inl rfl)
      obtain ⟨I, hI⟩ : ∃ I, I = t := ⟨_, rfl⟩
      have HI := Lib.hid hI
      have HI2 : Hid (I = t.extract 0 t.size) := by show _ = _; rw [hI]; exact (extract_full t).symm
      have HIZ : Hid (I.size = t.size) := by show _ = _; rw [hI]
      obtain ⟨F, hF⟩ : ∃ F : ByteArray, F = ⟨#[]⟩ := ⟨_, rfl⟩
      have HFE := Lib.hid hF
      have HFZ : Hid (F.size ≤ 65536) := by show _ ≤ _; rw [hF]; decide
      have HFF : Hid ((t.size = t.size ∧ F = ⟨#[]⟩) ∨ (byteN t t.size = 46 ∧ t.size + 1 < t.size ∧ F = t.extract (t.size + 1) t.size)) := .inl ⟨rfl, hF⟩
      obtain ⟨dd0, dd1, dd2⟩ := CD2.out
      have fd := FD2.out
      clear hI hF hlt
      go_upto_region 15 with fail
      obtain ⟨W3, hW3⟩ : ∃ W3, W3 = W2.setCell ⟨w.heap.size + 1, 1, none⟩ (.string t) := ⟨_, rfl⟩
      have k0 : W3.cell? ⟨w.heap.size + 1, 0, none⟩ = some (.bool false) := by rw [hW3]; exact cell_set_far _ _ _ _ _ _ (by decide) CD2.out.1
      have k1 : W3.cell? ⟨w.heap.size + 1, 1, none⟩ = some (.string I) := by rw [hW3, HI.out]; exact cell_set_same _ _ _ _ CD2.out.2.1
      have k2 : W3.cell? ⟨w.heap.size + 1, 2, none⟩ = some (.string F) := by rw [hW3, HFE.out]; exact cell_set_far _ _ _ _ _ _ (by decide) CD2.out.2.2
      have fa : ∀ i, W3.cell? ⟨w.heap.size, i, none⟩ = W2.cell? ⟨w.heap.size, i, none⟩ := fun i => by
        rw [hW3]
        exact (World.cell?_setCell_other _ _ _ _ (fun e => by have := congrArg Addr.block e; simp at this))
      have CRh : Hid (Cells3 W3 w.heap.size (.bool false) (.string ⟨#[]⟩) (.string ⟨#[]⟩)) := ⟨(fa 0).trans CR2.out.1, (fa 1).trans CR2.out.2.1, (fa 2).trans CR2.out.2.2⟩
      have FRh : Hid (∀ i, W3.frozen? ⟨w.heap.size, i, none⟩ = false) := fun i => by rw [hW3]; simpa using FR2.out i
      have CDh : Hid (Cells3 W3 (w.heap.size + 1) (.bool false) (.string I) (.string F)) := ⟨k0, k1, k2⟩
      have B3 : Hid (Below w.heap.size w W3) := by
        show Below _ _ _
        rw [hW3]
        exact B2.out.setCell (p := ⟨w.heap.size + 1, 1, none⟩) (Nat.le_succ _) _
      have hz3 : w.heap.size + 2 ≤ W3.heap.size := by rw [hW3]; simpa [World.setCell] using hz2
      rw [← hW3]
      clear hW3 k0 k1 k2 fa dd0 dd1 dd2 fd
      obtain ⟨bb, hbb⟩ : ∃ bb, bb = badB false t.size I F := ⟨_, rfl⟩
      have HBB := Lib.hid hbb
      have HPS : Hid (psR t = if bb = true then (⟨false, [], []⟩, 20) else if 40 < t.size + F.size then (⟨false, [], []⟩, 3) else (⟨false, I.data.toList, F.data.toList⟩, 0)) := by
        have := ps_some t HNL.out F (by rw [HTT.out, HND.out]; exact HFF.out)
        rw [HTT.out, HND.out, HSN.out, ← HI2.out, ← hbb] at this
        exact this
      clear hbb
      have CD0 := CDh.out
      obtain ⟨d0, d1, d2⟩ := CD0
      have IZ := HIZ.out
      have FZ := HFZ.out
      go_cut [84] (fun sx wx => sx = .bool bb ∧ Below W3.heap.size W3 wx)
      case first =>
        by_cases h0 : t.size = 0
        · have hb : bb = true := by rw [HBB.out]; unfold badB; rw [decide_eq_true h0]; rfl
          have q0 : ((t.size : Int) == 0) = true := beq_iff_eq.2 (by omega)
          have HB1 := Lib.hid hb
          clear hb h0
          go_wp2_with fail
          go_meet
          exact ⟨congrArg Value.bool HB1.out.symm, Below.refl _ _⟩
        · have hp : 0 < I.size := by omega
          have q0 : ((t.size : Int) == 0) = false := beq_eq_false_iff_ne.2 (by omega)
          have HK0 := Lib.hid (byteN_at I 0 hp)
          by_cases h48 : byteN I 0 = 48
          · have q48 : (((I[0]'hp).toNat : Int) == 48) = true := by rw [HK0.out, h48]; rfl
            by_cases h1 : 1 < t.size
            · have hb : bb = true := by rw [HBB.out]; unfold badB; rw [decide_eq_true h48, decide_eq_true (show 1 < I.size by omega)]; simp
              have q1 : decide ((1 : Int) < (t.size : Int)) = true := decide_eq_true (by omega)
              have HB1 := Lib.hid hb
              clear hb h48
              go_wp2_with fail
              go_meet
              exact ⟨congrArg Value.bool HB1.out.symm, Below.refl _ _⟩
            · have q1 : decide ((1 : Int) < (t.size : Int)) = false := decide_eq_false (by omega)
              have hb : bb = (!dgB F || (false && zrB I && zrB F)) := by rw [HBB.out]; unfold badB; rw [decide_eq_false h0, decide_eq_false (show ¬ 1 < I.size by omega)]; simp
              have HB1 := Lib.hid hb
              clear hb h48
              have DG := Lib.hid (fun wx => digits_any F wx (by unfold maxLen; omega))
              cases hdg : dgB F with
              | false =>
                have HB2 := Lib.hid (show bb = true by rw [HB1.out, hdg]; rfl)
                rw [hdg] at DG
                clear hdg
                go_wp2_with fail
                (with_reducible refine (DG.out _).mono ?_)
                rintro e w4 ⟨rfl, rfl⟩
                go_wp2_with fail
                go_meet
                exact ⟨congrArg Value.bool HB2.out.symm, Below.refl _ _⟩
              | true =>
                have HB2 := Lib.hid (show bb = (false && zrB I && zrB F) by rw [HB1.out, hdg]; rfl)
                rw [hdg] at DG
                clear hdg
                have HB3 := Lib.hid (show bb = false by rw [HB2.out]; rfl)
                go_wp2_with fail
                (with_reducible refine (DG.out _).mono ?_)
                rintro e w4 ⟨rfl, rfl⟩
                go_wp2_with fail
                go_meet
                exact ⟨congrArg Value.bool HB3.out.symm, Below.refl _ _⟩
          · have q48 : (((I[0]'hp).toNat : Int) == 48) = false := by rw [HK0.out, beq_eq_false_iff_ne]; omega
            have hb : bb = (!dgB F || (false && zrB I && zrB F)) := by rw [HBB.out]; unfold badB; rw [decide_eq_false h0, decide_eq_false h48]; simp
            have HB1 := Lib.hid hb
            clear hb h48
            have DG := Lib.hid (fun wx => digits_any F wx (by unfold maxLen; omega))
            cases hdg : dgB F with
            | false =>
              have HB2 := Lib.hid (show bb = true by rw [HB1.out, hdg]; rfl)
              rw [hdg] at DG
              clear hdg
              go_wp2_with fail
              (with_reducible refine (DG.out _).mono ?_)
              rintro e w4 ⟨rfl, rfl⟩
              go_wp2_with fail
              go_meet
              exact ⟨congrArg Value.bool HB2.out.symm, Below.refl _ _⟩
            | true =>
              have HB2 := Lib.hid (show bb = (false && zrB I && zrB F) by rw [HB1.out, hdg]; rfl)
              rw [hdg] at DG
              clear hdg
              have HB3 := Lib.hid (show bb = false by rw [HB2.out]; rfl)
              go_wp2_with fail
              (with_reducible refine (DG.out _).mono ?_)
              rintro e w4 ⟨rfl, rfl⟩
              go_wp2_with fail
              go_meet
              exact ⟨congrArg Value.bool HB3.out.symm, Below.refl _ _⟩
      case rest =>
      obtain ⟨rfl, hb5⟩ := hcut
      replace CRh := Lib.hid (CRh.out.keep hb5 (by omega))
      replace FRh := Lib.hid (frozen_keep FRh.out hb5 (by omega))
      replace CDh := Lib.hid (CDh.out.keep hb5 (by omega))
      replace B3 := Lib.hid (B3.out.trans (hb5.mono B3.out.size))
      have hz5 : w.heap.size + 2 ≤ wc.heap.size := by have := hb5.size; omega
      clear hb5 d0 d1 d2
      have hpb : bb = true → psR t = (⟨false, [], []⟩, 20) := fun h => by rw [HPS.out, if_pos h]
      have hpl : bb = false → 40 < t.size + F.size → psR t = (⟨false, [], []⟩, 3) := fun h h2 => by rw [HPS.out, if_neg (by rw [h]; decide), if_pos h2]
      have hpo : bb = false → ¬ 40 < t.size + F.size → psR t = (⟨false, I.data.toList, F.data.toList⟩, 0) := fun h h2 => by rw [HPS.out, if_neg (by rw [h]; decide), if_neg h2]
      have HPB := Lib.hid hpb
      have HPL := Lib.hid hpl
      have HPO := Lib.hid hpo
      clear hpb hpl hpo HBB HPS
      cases bb with
      | true =>
        have HP := Lib.hid (HPB.out rfl)
        obtain ⟨r0, r1, r2⟩ := CRh.out
        have z0 := FRh.out
        obtain ⟨e0, e1, e2⟩ := res_cells r0 r1 r2 (.bool false) (.string ⟨#[]⟩) (.string ⟨#[]⟩)
        go_wp2
        exact bodyPost_ret (v := .tuple #[.agg #[.bool false, .string ⟨#[]⟩, .string ⟨#[]⟩], .int .i64 20]) (by simp [results, Try.results14, go_sem, e0, e1, e2]) rfl ⟨by rw [ps_zero t 20 HP.out], res_below B3.out (by omega) _ _ _⟩
      | false =>
        obtain ⟨d0, d1, d2⟩ := CDh.out
        by_cases h40 : 40 < t.size
        · have q40 : decide ((40 : Int) < (t.size : Int)) = true := decide_eq_true (by omega)
          have HP := Lib.hid (HPL.out rfl (by omega))
          clear h40
          obtain ⟨r0, r1, r2⟩ := CRh.out
          have z0 := FRh.out
          obtain ⟨e0, e1, e2⟩ := res_cells r0 r1 r2 (.bool false) (.string ⟨#[]⟩) (.string ⟨#[]⟩)
          go_wp2
          exact bodyPost_ret (v := .tuple #[.agg #[.bool false, .string ⟨#[]⟩, .string ⟨#[]⟩], .int .i64 3]) (by simp [results, Try.results14, go_sem, e0, e1, e2]) rfl ⟨by rw [ps_zero t 3 HP.out], res_below B3.out (by omega) _ _ _⟩
        · have q40 : decide ((40 : Int) < (t.size : Int)) = false := decide_eq_false (by omega)
          have wz : IntKind.i64.wrap (40 - (t.size : Int)) = 40 - (t.size : Int) := IntWalk.i64_in _ (by omega)
          by_cases h2 : 40 < t.size + F.size
          · have q41 : decide (40 - (t.size : Int) < (F.size : Int)) = true := decide_eq_true (by omega)
            have HP := Lib.hid (HPL.out rfl h2)
            clear h40 h2
            obtain ⟨r0, r1, r2⟩ := CRh.out
            have z0 := FRh.out
            obtain ⟨e0, e1, e2⟩ := res_cells r0 r1 r2 (.bool false) (.string ⟨#[]⟩) (.string ⟨#[]⟩)
            go_wp2
            exact bodyPost_ret (v := .tuple #[.agg #[.bool false, .string ⟨#[]⟩, .string ⟨#[]⟩], .int .i64 3]) (by simp [results, Try.results14, go_sem, e0, e1, e2]) rfl ⟨by rw [ps_zero t 3 HP.out], res_below B3.out (by omega) _ _ _⟩
          · have q41 : decide (40 - (t.size : Int) < (F.size : Int)) = false := decide_eq_false (by omega)
            have HP := Lib.hid (HPO.out rfl h2)
            clear h40 h2
            obtain ⟨r0, r1, r2⟩ := CRh.out
            have z0 := FRh.out
            obtain ⟨e0, e1, e2⟩ := res_cells r0 r1 r2 (.bool false) (.string I) (.string F)
            have HV : Hid (Value.tuple #[.agg #[.bool false, .string I, .string F], .int .i64 0] = .tuple #[.agg #[.bool (psN t), .string (psI t), .string (psF t)], .int .i64 (psE t)]) := by
              show _ = _
              unfold psN psI psF psE
              rw [HP.out]
            go_wp2
            exact bodyPost_ret (v := .tuple #[.agg #[.bool false, .string I, .string F], .int .i64 0]) (by simp [results, Try.results14, go_sem, e0, e1, e2]) rfl ⟨by rw [HV.out], res_below B3.out (by omega) _ _ _⟩
end Go.Proofs.Ytmaljkjcibdbgaa
