/- Fix of the reference, all the way. -/
import Derived.Test.YtmaljkjcibdbgaaRoFix
import Derived.Deep.RegionWith
namespace Go.Proofs.Ytmaljkjcibdbgaa
open Go.RowKit
attribute [local go_sem ↓] Go.wp_at_zero Go.wp_at_succ

def cellSz (wr : World) (p : Addr) : Nat := match wr.cell? p with | some (.string s) => s.size | _ => 0

set_option maxHeartbeats 4000000 in
set_option maxRecDepth 100000 in
theorem rf_ok (an : Bool) (ai af : ByteArray) (mode most : Int) (p : Nat) (x : Dc) (zn : Bool) (zi zf : ByteArray) (c : Int) (w : World) (H1 : (∀ wx : World, Calls Try.prog 71 #[(.agg #[.bool an, .string ai, .string af]), .int .i64 mode] wx fun e w' => e = .returned (.int .i64 0) ∧ Below wx.heap.size wx w')) (H2 : (∀ wx : World, Calls Try.prog 33 #[(.agg #[.bool an, .string ai, .string af]), .int .i64 mode, .int .i64 most] wx fun e w' => e = .returned (.tuple #[(.agg #[.bool x.neg, .string (dStr x.i), .string (dStr x.f)]), .int .i64 0]) ∧ Below wx.heap.size wx w')) (H3 : (∀ (wx : World) {F : ByteArray}, F = dStr (x.f.take (cutTo x.f p x.f.length) ++ List.replicate (p - cutTo x.f p x.f.length) 0) → Calls Try.prog 76 #[.agg #[.bool x.neg, .string (dStr x.i), .string F]] wx fun r w' => r = .returned (.tuple #[.agg #[.bool zn, .string zi, .string zf], .int .i64 c]) ∧ Below wx.heap.size wx w')) (hp : p ≤ 40) (h2 : ¬ most < (p : Int)) (h3 : ¬ 40 < most) (hm : x.i.length + x.f.length ≤ 40) (hdf : Digs x.f) :
    Calls Try.prog 36 #[(.agg #[.bool an, .string ai, .string af]), .int .i64 mode, .int .i64 (p : Int), .int .i64 most] w fun e w' => e = .returned (.tuple #[(.agg #[.bool zn, .string zi, .string zf]), .int .i64 c]) ∧ Below w.heap.size w w' := by
  have D1 := Lib.hid H1
  have D2 := Lib.hid H2
  have D3 := Lib.hid H3
  clear H1 H2 H3
  have q0 : ((0 : Int) != 0) = false := by decide
  have q10 : decide ((p : Int) < 0) = false := decide_eq_false (by omega)
  have q11 : decide ((40 : Int) < (p : Int)) = false := decide_eq_false (by omega)
  have q12 : decide (most < (p : Int)) = false := decide_eq_false h2
  have q13 : decide (40 < most) = false := decide_eq_false h3
  have HDF := Lib.hid hdf
  clear hdf h2 h3
  go_enter Try.func36, Try.ntmps36
  go_wp2_with fail
  obtain ⟨W0, hW0⟩ : ∃ W0, W0 = ((w.alloc (.cells #[.bool an, .string ai, .string af] 23)).alloc (.cells #[.bool false, .string ⟨#[]⟩, .string ⟨#[]⟩] 23)) := ⟨_, rfl⟩
  obtain ⟨hB, hz, C0, C1, FL⟩ : Below w.heap.size w W0 ∧ w.heap.size + 2 ≤ W0.heap.size ∧ Cells3 W0 w.heap.size (.bool an) (.string ai) (.string af) ∧ Cells3 W0 (w.heap.size + 1) (.bool false) (.string ⟨#[]⟩) (.string ⟨#[]⟩) ∧ ∀ i, W0.frozen? ⟨(w.heap.size + 1), i, none⟩ = false := by rw [hW0]; exact ⟨below_two w _ _, two_boxes w _ _ _ _ _ _ _⟩
  have z0 : w.heap.size + 1 ≤ W0.heap.size := by omega
  have z1 : (w.heap.size + 1) + 1 ≤ W0.heap.size := by omega
  rw [← hW0]
  have HB := Lib.hid hB
  have F1 := Lib.hid FL
  have F0 := Lib.hid (show ∀ i, W0.frozen? ⟨w.heap.size, i, none⟩ = false by rw [hW0]; exact frozen_keep (one_box w (.bool an) (.string ai) (.string af) 23).2.2 ((Below.refl _ _).alloc (Nat.le_refl _) _) (by simp))
  clear hW0 hB hz FL
  (with_reducible refine (D1.out _).mono ?_)
  rintro e V1 ⟨rfl, hb⟩
  replace F0 := Lib.hid (frozen_keep F0.out hb (by omega))
  replace F1 := Lib.hid (frozen_keep F1.out hb (by omega))
  replace C0 := C0.keep hb (by omega)
  replace z0 : w.heap.size + 1 ≤ V1.heap.size := by have := hb.size; omega
  replace C1 := C1.keep hb (by omega)
  replace z1 : (w.heap.size + 1) + 1 ≤ V1.heap.size := by have := hb.size; omega
  replace HB := Lib.hid (HB.out.trans (hb.mono HB.out.size))
  clear hb
  have o00 := C0.1
  have o10 := C1.1
  have o01 := C0.2.1
  have o02 := C0.2.2
  have o11 := C1.2.1
  have o12 := C1.2.2
  go_wp2_with fail
  clear o00 o01 o02 o10 o11 o12
  (with_reducible refine (D2.out _).mono ?_)
  rintro e V2 ⟨rfl, hb⟩
  replace F0 := Lib.hid (frozen_keep F0.out hb (by omega))
  replace F1 := Lib.hid (frozen_keep F1.out hb (by omega))
  replace C0 := C0.keep hb (by omega)
  replace z0 : w.heap.size + 1 ≤ V2.heap.size := by have := hb.size; omega
  replace C1 := C1.keep hb (by omega)
  replace z1 : (w.heap.size + 1) + 1 ≤ V2.heap.size := by have := hb.size; omega
  replace HB := Lib.hid (HB.out.trans (hb.mono HB.out.size))
  clear hb
  have o00 := C0.1
  have o10 := C1.1
  have o01 := C0.2.1
  have o02 := C0.2.2
  have o11 := C1.2.1
  have o12 := C1.2.2
  have f0 := F0.out
  have f1 := F1.out
  go_wp2_with fail
  clear f0
  clear f1
  clear o00 o01 o02 o10 o11 o12
  obtain ⟨V2s, hV2s⟩ : ∃ X, X = ((V2.setCell ⟨w.heap.size, 0, none⟩ (.bool x.neg)).setCell ⟨w.heap.size, 1, none⟩ (.string (dStr x.i))).setCell ⟨w.heap.size, 2, none⟩ (.string (dStr x.f)) := ⟨_, rfl⟩
  have C0n := set_box C0 (.bool x.neg) (.string (dStr x.i)) (.string (dStr x.f))
  have C1n := far_box C1 (show (w.heap.size + 1) ≠ w.heap.size by omega) (.bool x.neg) (.string (dStr x.i)) (.string (dStr x.f))
  have HBn := Lib.hid (res_below HB.out (show w.heap.size ≤ w.heap.size by omega) (.bool x.neg) (.string (dStr x.i)) (.string (dStr x.f)))
  have hsz : V2s.heap.size = V2.heap.size := by rw [hV2s]; simp [World.setCell]
  replace F0 : Hid (∀ i, V2s.frozen? ⟨w.heap.size, i, none⟩ = false) := by have t := F0.out; show ∀ i, _; rw [hV2s]; intro i; simpa using t i
  replace F1 : Hid (∀ i, V2s.frozen? ⟨(w.heap.size + 1), i, none⟩ = false) := by have t := F1.out; show ∀ i, _; rw [hV2s]; intro i; simpa using t i
  rw [← hV2s]
  rw [← hV2s] at HBn C0n C1n
  clear HB C0 C1 hV2s
  have HB := HBn
  clear HBn
  have C0 := C0n
  clear C0n
  replace z0 : w.heap.size + 1 ≤ V2s.heap.size := by omega
  have C1 := C1n
  clear C1n
  replace z1 : (w.heap.size + 1) + 1 ≤ V2s.heap.size := by omega
  clear hsz
  go_loopw [] (fun wr => ∃ k : Nat, k ≤ x.f.length ∧ cutTo x.f p k = cutTo x.f p x.f.length ∧ Cells3 wr w.heap.size (.bool x.neg) (.string (dStr x.i)) (.string (dStr (x.f.take k))) ∧ Cells3 wr (w.heap.size + 1) (.bool false) (.string ⟨#[]⟩) (.string ⟨#[]⟩) ∧ (∀ i, wr.frozen? ⟨w.heap.size, i, none⟩ = false) ∧ (∀ i, wr.frozen? ⟨w.heap.size + 1, i, none⟩ = false) ∧ Below w.heap.size w wr ∧ w.heap.size + 2 ≤ wr.heap.size) (fun wr => cellSz wr ⟨w.heap.size, 2, none⟩)
  case atStart => exact ⟨x.f.length, Nat.le_refl _, rfl, by rw [List.take_length]; exact C0, C1, F0.out, F1.out, HB.out, by omega⟩
  case round =>
    obtain ⟨k, hk, hE, hca, hcr, hfa, hfr, hbw, hzw⟩ := hrel
    have HE := Lib.hid hE
    have HCR := Lib.hid hcr
    have HFR := Lib.hid hfr
    have HW := Lib.hid hbw
    obtain ⟨a0, a1, a2⟩ := hca
    clear hE hcr hfr hbw
    obtain ⟨S, hS⟩ : ∃ S, S = dStr (x.f.take k) := ⟨_, rfl⟩
    have hz : S.size = k := by rw [hS, dStr_size, List.length_take]; omega
    rw [← hS] at a2
    have HS := Lib.hid hS
    clear hS
    have hkb : k ≤ 1000 := by omega
    by_cases hgo : p < k ∧ x.f.getD (k - 1) 0 = 0
    · obtain ⟨m, rfl⟩ : ∃ m, k = m + 1 := ⟨k - 1, by omega⟩
      obtain ⟨g1, h0⟩ := hgo
      rw [Nat.add_sub_cancel] at h0
      have hms : m < S.size := by omega
      have hget : (S[m]'hms).toNat = 48 + (x.f.take (m + 1)).getD m 0 := by
        have e := HS.out
        subst e
        exact dStr_get _ (HDF.out.take _) m hms
      have hg2 : (x.f.take (m + 1)).getD m 0 = x.f.getD m 0 := by
        rw [List.getD_eq_getElem?_getD, List.getD_eq_getElem?_getD, List.getElem?_take, if_pos (by omega)]
      rw [hg2, h0] at hget
      have q48 : (((S[m]'hms).toNat : Int) == 48) = true := by rw [hget]; rfl
      have g2 : (p : Int) < (m : Int) + 1 := by omega
      have g3 : p ≤ m := by omega
      have ST := Lib.hid (show cutTo x.f p (m + 1) = cutTo x.f p m from if_pos ⟨g1, h0⟩)
      have HX := Lib.hid (show S.extract 0 m = dStr (x.f.take m) by rw [HS.out, dStr_ext, List.drop_zero, List.take_take, Nat.min_eq_left (by omega)])
      have HA := Lib.hid (show Cells3 wr w.heap.size (.bool x.neg) (.string (dStr x.i)) (.string S) from ⟨a0, a1, a2⟩)
      have HFA := Lib.hid hfa
      have HZ := Lib.hid hz
      have HZW := Lib.hid hzw
      clear hget h0 hg2 hzw
      go_wp2
      go_roundw
      case rel =>
        refine ⟨m, by omega, by rw [← HE.out, ST.out], ?_, ?_, ?_, ?_, HW.out.setCell (p := ⟨w.heap.size, 2, none⟩) (Nat.le_refl _) _, by have := HZW.out; simpa [World.setCell] using this⟩
        · rw [← HX.out]
          exact ⟨cell_set_far _ _ _ _ _ _ (by decide) HA.out.1, cell_set_far _ _ _ _ _ _ (by decide) HA.out.2.1, cell_set_same _ _ _ _ HA.out.2.2⟩
        · exact ⟨(World.cell?_setCell_other _ _ _ _ (fun e => by have := congrArg Addr.block e; simp at this)).trans HCR.out.1, (World.cell?_setCell_other _ _ _ _ (fun e => by have := congrArg Addr.block e; simp at this)).trans HCR.out.2.1, (World.cell?_setCell_other _ _ _ _ (fun e => by have := congrArg Addr.block e; simp at this)).trans HCR.out.2.2⟩
        · intro i; simpa using HFA.out i
        · intro i; simpa using HFR.out i
      case measure =>
        unfold cellSz
        rw [cell_set_same _ _ _ _ HA.out.2.2, HA.out.2.2]
        simp [HZ.out]
    · have KE : Hid (k = cutTo x.f p x.f.length) := by
        show _ = _
        rw [← HE.out]
        cases k with
        | zero => rfl
        | succ m => exact (if_neg (fun h => hgo ⟨h.1, by rw [Nat.add_sub_cancel]; exact h.2⟩)).symm
      have HA := Lib.hid (show Cells3 wr w.heap.size (.bool x.neg) (.string (dStr x.i)) (.string S) from ⟨a0, a1, a2⟩)
      have z0 : w.heap.size + 1 ≤ wr.heap.size := by omega
      have z1 : w.heap.size + 1 + 1 ≤ wr.heap.size := by omega
      by_cases hkp : p < k
      · obtain ⟨m, rfl⟩ : ∃ m, k = m + 1 := ⟨k - 1, by omega⟩
        have hms : m < S.size := by omega
        have hget : (S[m]'hms).toNat = 48 + (x.f.take (m + 1)).getD m 0 := by
          have e := HS.out
          subst e
          exact dStr_get _ (HDF.out.take _) m hms
        have hg2 : (x.f.take (m + 1)).getD m 0 = x.f.getD m 0 := by
          rw [List.getD_eq_getElem?_getD, List.getD_eq_getElem?_getD, List.getElem?_take, if_pos (by omega)]
        have hne : x.f.getD m 0 ≠ 0 := fun h => hgo ⟨hkp, by rw [Nat.add_sub_cancel]; exact h⟩
        have q48 : (((S[m]'hms).toNat : Int) == 48) = false := by rw [hget, hg2, beq_eq_false_iff_ne]; omega
        have SX : Hid (S = dStr (x.f.take (cutTo x.f p x.f.length) ++ List.replicate (p - cutTo x.f p x.f.length) 0)) := by
          show _ = _
          rw [← KE.out, show p - (m + 1) = 0 by omega, List.replicate_zero, List.append_nil]
          exact HS.out
        have g2 : (p : Int) < (m : Int) + 1 := by omega
        have g3 : p ≤ m := by omega
        have g4 : ¬ (m : Int) + 1 < (p : Int) := by omega
        have g5 : ¬ m + 1 < p := by omega
        clear hgo hget hg2 hne
        go_wp2_with fail
        (with_reducible refine (D3.out _ ?_).mono ?_)
        · exact SX.out
        rintro e W5 ⟨rfl, hb5⟩
        obtain ⟨r0, r1, r2⟩ := HCR.out.keep hb5 (by omega)
        have z0 := frozen_keep HFR.out hb5 (by omega)
        obtain ⟨e0, e1, e2⟩ := res_cells r0 r1 r2 (.bool zn) (.string zi) (.string zf)
        go_wp2
        exact bodyPost_ret (v := .tuple #[.agg #[.bool zn, .string zi, .string zf], .int .i64 c]) (by simp [results, Try.results36, go_sem, e0, e1, e2]) rfl ⟨rfl, res_below (HW.out.trans (hb5.mono HW.out.size)) (by omega) _ _ _⟩
      · have g1 : ¬ (p : Int) < (k : Int) := by omega
        by_cases hk2 : k < p
        · have g2 : (k : Int) < (p : Int) := by omega
          have wz : IntKind.i64.wrap ((p : Int) - (k : Int)) = (p : Int) - (k : Int) := IntWalk.i64_in _ (by omega)
          obtain ⟨NN, hNN⟩ : ∃ NN, NN = dStr (List.replicate (p - k) 0) := ⟨_, rfl⟩
          have DN : Hid (∀ (wx : World) {nI : Int}, nI = (p : Int) - (k : Int) → Calls Try.prog 73 #[.int .i64 nI] wx fun r w' => r = .returned (.string NN) ∧ Below wx.heap.size wx w') := fun wx nI h => by rw [hNN]; exact rnoughts_any (p - k) nI wx (by omega) (by omega)
          have hNz : NN.size ≤ 1000 := by rw [hNN, dStr_size, List.length_replicate]; omega
          have SX : Hid (S ++ NN = dStr (x.f.take (cutTo x.f p x.f.length) ++ List.replicate (p - cutTo x.f p x.f.length) 0)) := by
            show _ = _
            rw [← KE.out, ← dStr_append, HS.out, hNN]
          have g6 : ¬ 9223372036854775807 < S.size + NN.size := by omega
          have g7 : ¬ 9223372036854775807 < k + NN.size := by omega
          clear hgo hNN
          go_upto_region 12 with fail
          go_region_with (go_at_call 73; (with_reducible refine (DN.out _ ?_).mono ?_); (focus rfl); rintro e wA ⟨rfl, hbA⟩; have hb1 : Below wr.heap.size wr wA := undrew hbA; obtain ⟨b0, b1, b2⟩ := HA.out.keep hb1 (by omega); have fA := frozen_keep hfa hb1 (by omega))
          all_goals
            obtain ⟨W6, hW6⟩ : ∃ W6, W6 = wA.setCell ⟨w.heap.size, 2, none⟩ (.string (S ++ NN)) := ⟨_, rfl⟩
            have HB6 : Hid (Below w.heap.size w W6) := by show Below _ _ _; rw [hW6]; exact (HW.out.trans (hb1.mono HW.out.size)).setCell (p := ⟨w.heap.size, 2, none⟩) (Nat.le_refl _) _
            have hzA : w.heap.size + 2 ≤ wA.heap.size := by have := hb1.size; omega
            have hz6 : w.heap.size + 2 ≤ W6.heap.size := by rw [hW6]; simpa [World.setCell] using hzA
            obtain ⟨c0, c1, c2⟩ : Cells3 W6 w.heap.size (.bool x.neg) (.string (dStr x.i)) (.string (S ++ NN)) := by
              rw [hW6]
              exact ⟨cell_set_far _ _ _ _ _ _ (by decide) b0, cell_set_far _ _ _ _ _ _ (by decide) b1, cell_set_same _ _ _ _ b2⟩
            have hcA := HCR.out.keep hb1 (by omega)
            have CR6 : Hid (Cells3 W6 (w.heap.size + 1) (.bool false) (.string ⟨#[]⟩) (.string ⟨#[]⟩)) := by
              show Cells3 _ _ _ _ _
              rw [hW6]
              exact ⟨(World.cell?_setCell_other _ _ _ _ (fun e => by have := congrArg Addr.block e; simp at this)).trans hcA.1, (World.cell?_setCell_other _ _ _ _ (fun e => by have := congrArg Addr.block e; simp at this)).trans hcA.2.1, (World.cell?_setCell_other _ _ _ _ (fun e => by have := congrArg Addr.block e; simp at this)).trans hcA.2.2⟩
            have hfA := frozen_keep HFR.out hb1 (by omega)
            have FR6 : Hid (∀ i, W6.frozen? ⟨w.heap.size + 1, i, none⟩ = false) := by
              show ∀ i, _
              rw [hW6]
              intro i
              simpa using hfA i
            rw [← hW6]
            clear hW6 hcA hfA hzA b0 b1 b2 fA hb1 hbA
            go_wp2_with fail
            (with_reducible refine (D3.out _ ?_).mono ?_)
            · exact SX.out
            rintro e W5 ⟨rfl, hb5⟩
            obtain ⟨r0, r1, r2⟩ := CR6.out.keep hb5 (by omega)
            have z0 := frozen_keep FR6.out hb5 (by omega)
            obtain ⟨e0, e1, e2⟩ := res_cells r0 r1 r2 (.bool zn) (.string zi) (.string zf)
            go_wp2
            exact bodyPost_ret (v := .tuple #[.agg #[.bool zn, .string zi, .string zf], .int .i64 c]) (by simp [results, Try.results36, go_sem, e0, e1, e2]) rfl ⟨rfl, res_below (HB6.out.trans (hb5.mono HB6.out.size)) (by omega) _ _ _⟩
        · have SX : Hid (S = dStr (x.f.take (cutTo x.f p x.f.length) ++ List.replicate (p - cutTo x.f p x.f.length) 0)) := by
            show _ = _
            rw [← KE.out, show p - k = 0 by omega, List.replicate_zero, List.append_nil]
            exact HS.out
          have g2 : ¬ (k : Int) < (p : Int) := by omega
          clear hgo
          go_wp2_with fail
          (with_reducible refine (D3.out _ ?_).mono ?_)
          · exact SX.out
          rintro e W5 ⟨rfl, hb5⟩
          obtain ⟨r0, r1, r2⟩ := HCR.out.keep hb5 (by omega)
          have z0 := frozen_keep HFR.out hb5 (by omega)
          obtain ⟨e0, e1, e2⟩ := res_cells r0 r1 r2 (.bool zn) (.string zi) (.string zf)
          go_wp2
          exact bodyPost_ret (v := .tuple #[.agg #[.bool zn, .string zi, .string zf], .int .i64 c]) (by simp [results, Try.results36, go_sem, e0, e1, e2]) rfl ⟨rfl, res_below (HW.out.trans (hb5.mono HW.out.size)) (by omega) _ _ _⟩
end Go.Proofs.Ytmaljkjcibdbgaa
