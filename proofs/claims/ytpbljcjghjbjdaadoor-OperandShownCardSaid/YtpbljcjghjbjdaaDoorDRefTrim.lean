/- Trim of the reference. -/
import Derived.Test.YtpbljcjghjbjdaaDoorDRef1
import Derived.Test.YtpbljcjghjbjdaaDoorDMoves
namespace Go.Proofs.YtpbljcjghjbjdaaDoor
open Go.RowKit
attribute [local go_sem ↓] Go.wp_at_zero Go.wp_at_succ

def cellSize (wr : World) (p : Addr) : Nat := match wr.cell? p with | some (.string s) => s.size | _ => 0
set_option maxHeartbeats 2000000 in
set_option maxRecDepth 100000 in
theorem refTrim_ok (d : Dc) (w : World) (hd : d.Ok) :
    Calls Tryd.prog 65 #[(.agg #[.bool d.neg, .string (dStr d.i), .string (dStr d.f)])] w fun e w' => e = .returned (.tuple #[.agg #[.bool (trimD d).neg, .string (dStr (trimD d).i), .string (dStr (trimD d).f)], .int .i64 0]) ∧ Below w.heap.size w w' := by
  have DC := Lib.hid (fun wx => refCheck_ok d wx hd)
  have hm := hd.most
  have HDF := Lib.hid hd.df
  have hT : (trimD d).f = d.f.take (trimTo d.f d.f.length) := rfl
  have HT := Lib.hid hT
  clear hd hT
  go_enter Tryd.func65, Tryd.ntmps65
  go_wp2_with fail
  obtain ⟨W2, hW2⟩ : ∃ W2, W2 = (w.alloc (.cells #[.bool d.neg, .string (dStr d.i), .string (dStr d.f)] 23)).alloc (.cells #[.bool false, .string ⟨#[]⟩, .string ⟨#[]⟩] 23) := ⟨_, rfl⟩
  obtain ⟨hb2, hz2, CA, CR, FR⟩ : Below w.heap.size w W2 ∧ w.heap.size + 2 ≤ W2.heap.size ∧ Cells3 W2 w.heap.size (.bool d.neg) (.string (dStr d.i)) (.string (dStr d.f)) ∧ Cells3 W2 (w.heap.size + 1) (.bool false) (.string ⟨#[]⟩) (.string ⟨#[]⟩) ∧ ∀ i, W2.frozen? ⟨w.heap.size + 1, i, none⟩ = false := by rw [hW2]; exact ⟨below_two w _ _, two_boxes w _ _ _ _ _ _ _⟩
  have FA : ∀ i, W2.frozen? ⟨w.heap.size, i, none⟩ = false := by
    rw [hW2]
    exact frozen_keep (one_box w (.bool d.neg) (.string (dStr d.i)) (.string (dStr d.f)) 23).2.2 ((Below.refl _ _).alloc (Nat.le_refl _) _) (by simp)
  rw [← hW2]
  clear hW2
  (with_reducible refine (DC.out _).mono ?_)
  rintro e W3 ⟨rfl, hb3⟩
  have CA3 := Lib.hid (CA.keep hb3 (by omega))
  have CR3 := Lib.hid (CR.keep hb3 (by omega))
  have FR3 := Lib.hid (frozen_keep FR hb3 (by omega))
  have FA3 := Lib.hid (frozen_keep FA hb3 (by omega))
  have B3 := Lib.hid (hb2.trans (hb3.mono hb2.size))
  clear hb3 hb2 CA CR FR FA hz2
  go_wp2
  go_loopw [] (fun wr => ∃ k : Nat, k ≤ d.f.length ∧ trimTo d.f k = trimTo d.f d.f.length ∧ Cells3 wr w.heap.size (.bool d.neg) (.string (dStr d.i)) (.string (dStr (d.f.take k))) ∧ Cells3 wr (w.heap.size + 1) (.bool false) (.string ⟨#[]⟩) (.string ⟨#[]⟩) ∧ (∀ i, wr.frozen? ⟨w.heap.size, i, none⟩ = false) ∧ (∀ i, wr.frozen? ⟨w.heap.size + 1, i, none⟩ = false) ∧ Below w.heap.size w wr) (fun wr => cellSize wr ⟨w.heap.size, 2, none⟩)
  case atStart => exact ⟨d.f.length, Nat.le_refl _, rfl, by rw [List.take_length]; exact CA3.out, CR3.out, FA3.out, FR3.out, B3.out⟩
  case round =>
    obtain ⟨k, hk, hE, hca, hcr, hfa, hfr, hbw⟩ := hrel
    have HE := Lib.hid hE
    have HCR := Lib.hid hcr
    have HFR := Lib.hid hfr
    have HW := Lib.hid hbw
    obtain ⟨a0, a1, a2⟩ := hca
    clear hE hcr hfr hbw
    obtain ⟨S, hS⟩ : ∃ S, S = dStr (d.f.take k) := ⟨_, rfl⟩
    have hz : S.size = k := by rw [hS, dStr_size, List.length_take]; omega
    rw [← hS] at a2
    have HS := Lib.hid hS
    clear hS
    have hkb : k ≤ 1000 := by omega
    by_cases hgo : 0 < k ∧ d.f.getD (k - 1) 0 = 0
    · obtain ⟨m, rfl⟩ : ∃ m, k = m + 1 := ⟨k - 1, by omega⟩
      obtain ⟨_, h0⟩ := hgo
      rw [Nat.add_sub_cancel] at h0
      have hms : m < S.size := by omega
      have hget : (S[m]'hms).toNat = 48 + (d.f.take (m + 1)).getD m 0 := by
        have e := HS.out
        subst e
        exact dStr_get _ (HDF.out.take _) m hms
      have hg2 : (d.f.take (m + 1)).getD m 0 = d.f.getD m 0 := by
        rw [List.getD_eq_getElem?_getD, List.getD_eq_getElem?_getD, List.getElem?_take, if_pos (by omega)]
      rw [hg2, h0] at hget
      have q48 : (((S[m]'hms).toNat : Int) == 48) = true := by rw [hget]; rfl
      have n1 : ¬ S.toList = [] := fun h => by have := toList_nil.1 h; omega
      have n2 : S.toList.isEmpty = false := by simpa using n1
      have ST := Lib.hid (show trimTo d.f (m + 1) = trimTo d.f m from if_pos h0)
      have HX := Lib.hid (show S.extract 0 m = dStr (d.f.take m) by rw [HS.out, dStr_ext, List.drop_zero, List.take_take, Nat.min_eq_left (by omega)])
      have HA := Lib.hid (show Cells3 wr w.heap.size (.bool d.neg) (.string (dStr d.i)) (.string S) from ⟨a0, a1, a2⟩)
      have HFA := Lib.hid hfa
      have HZ := Lib.hid hz
      clear hget h0 hg2
      go_wp2
      go_roundw
      case rel =>
        refine ⟨m, by omega, by rw [← HE.out, ST.out], ?_, ?_, ?_, ?_, HW.out.setCell (p := ⟨w.heap.size, 2, none⟩) (Nat.le_refl _) _⟩
        · rw [← HX.out]
          exact ⟨cell_set_far _ _ _ _ _ _ (by decide) HA.out.1, cell_set_far _ _ _ _ _ _ (by decide) HA.out.2.1, cell_set_same _ _ _ _ HA.out.2.2⟩
        · exact ⟨(World.cell?_setCell_other _ _ _ _ (fun e => by have := congrArg Addr.block e; simp at this)).trans HCR.out.1, (World.cell?_setCell_other _ _ _ _ (fun e => by have := congrArg Addr.block e; simp at this)).trans HCR.out.2.1, (World.cell?_setCell_other _ _ _ _ (fun e => by have := congrArg Addr.block e; simp at this)).trans HCR.out.2.2⟩
        · intro i; simpa using HFA.out i
        · intro i; simpa using HFR.out i
      case measure =>
        unfold cellSize
        rw [cell_set_same _ _ _ _ HA.out.2.2, HA.out.2.2]
        simp [HZ.out]
    · have KE : Hid (k = trimTo d.f d.f.length) := by
        show _ = _
        rw [← HE.out]
        cases k with
        | zero => rfl
        | succ m => exact (if_neg (fun h => hgo ⟨by omega, by rw [Nat.add_sub_cancel]; exact h⟩)).symm
      by_cases hk0 : k = 0
      · have n1 : S.toList = [] := toList_nil.2 (by omega)
        have n2 : S.toList.isEmpty = true := by rw [n1]; rfl
        clear hgo hz hk0
        obtain ⟨r0, r1, r2⟩ := HCR.out
        have z0 := HFR.out
        obtain ⟨e0, e1, e2⟩ := res_cells r0 r1 r2 (.bool d.neg) (.string (dStr d.i)) (.string S)
        have HBl := Lib.hid (res_below HW.out (Nat.le_succ _) (.bool d.neg) (.string (dStr d.i)) (.string S))
        go_wp2
        exact bodyPost_ret (v := .tuple #[.agg #[.bool d.neg, .string (dStr d.i), .string S], .int .i64 0]) (by simp [results, Tryd.results65, go_sem, e0, e1, e2]) rfl ⟨by rw [HS.out, KE.out]; rfl, HBl.out⟩
      · obtain ⟨m, rfl⟩ : ∃ m, k = m + 1 := ⟨k - 1, by omega⟩
        have hms : m < S.size := by omega
        have hget : (S[m]'hms).toNat = 48 + (d.f.take (m + 1)).getD m 0 := by
          have e := HS.out
          subst e
          exact dStr_get _ (HDF.out.take _) m hms
        have hg2 : (d.f.take (m + 1)).getD m 0 = d.f.getD m 0 := by
          rw [List.getD_eq_getElem?_getD, List.getD_eq_getElem?_getD, List.getElem?_take, if_pos (by omega)]
        have hne : d.f.getD m 0 ≠ 0 := fun h => hgo ⟨by omega, by rw [Nat.add_sub_cancel]; exact h⟩
        have q48 : (((S[m]'hms).toNat : Int) == 48) = false := by rw [hget, hg2, beq_eq_false_iff_ne]; omega
        have n1 : ¬ S.toList = [] := fun h => by have := toList_nil.1 h; omega
        have n2 : S.toList.isEmpty = false := by simpa using n1
        clear hgo hget hg2 hne
        obtain ⟨r0, r1, r2⟩ := HCR.out
        have z0 := HFR.out
        obtain ⟨e0, e1, e2⟩ := res_cells r0 r1 r2 (.bool d.neg) (.string (dStr d.i)) (.string S)
        have HBl := Lib.hid (res_below HW.out (Nat.le_succ _) (.bool d.neg) (.string (dStr d.i)) (.string S))
        go_wp2
        exact bodyPost_ret (v := .tuple #[.agg #[.bool d.neg, .string (dStr d.i), .string S], .int .i64 0]) (by simp [results, Tryd.results65, go_sem, e0, e1, e2]) rfl ⟨by rw [HS.out, KE.out]; rfl, HBl.out⟩
end Go.Proofs.YtpbljcjghjbjdaaDoor
