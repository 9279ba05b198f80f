/- Pad of the reference. -/
import Derived.Test.YtpbljcjghjbjdaaDoorDRef2
import Derived.Test.YtpbljcjghjbjdaaDoorDRefTrim
import Derived.Test.YtpbljcjghjbjdaaDoorDParse
namespace Go.Proofs.YtpbljcjghjbjdaaDoor
open Go.RowKit
attribute [local go_sem ↓] Go.wp_at_zero Go.wp_at_succ

def padded (d : Dc) (j : Nat) : Dc := ⟨d.neg, d.i, d.f ++ List.replicate j 0⟩
theorem pad_form {d : Dc} (hd : d.Ok) (k M : Nat) (hM : M = max d.f.length k) : padD d k = if 40 < d.i.length + M then none else some (padded d (M - d.f.length)) := by
  have hl : (padded d (M - d.f.length)).f.length = M := by show (d.f ++ List.replicate _ 0).length = M; rw [List.length_append, List.length_replicate]; omega
  have hn : (padded d (M - d.f.length)).num = d.raised M := by
    rw [← raised_digs d M, List.append_assoc]
    rfl
  have hr : (padded d (M - d.f.length)).raised M = d.raised M := by
    unfold Dc.raised
    rw [hl, hn, Nat.sub_self, Nat.pow_zero, Nat.mul_one]
    rfl
  have hg : (padded d (M - d.f.length)).Dg := ⟨hd.di, .append hd.df (.zeros _), hd.one⟩
  have := mk_form hg hd.lead (fun h => by
    rw [hn]
    have := hd.sign h
    exact Nat.ne_of_gt (Nat.mul_pos (Nat.pos_of_ne_zero this) (Nat.pow_pos (by omega))))
  rw [hl, hr] at this
  show mkN d.neg (d.raised (max d.f.length k)) (max d.f.length k) = _
  rw [← hM]
  exact this

set_option maxHeartbeats 2000000 in
set_option maxRecDepth 100000 in
theorem refPad_ok (d : Dc) (k : Nat) (w : World) (o : Option Dc) (ho : padD d k = o) (hd : d.Ok) (h1 : k ≤ 40) :
    Calls Tryd.prog 97 #[(.agg #[.bool d.neg, .string (dStr d.i), .string (dStr d.f)]), .int .i64 k] w fun e w' => e = .returned (.tuple #[.agg #[.bool (oN o), .string (oI o), .string (oF o)], .int .i64 (oE o)]) ∧ Below w.heap.size w w' := by
  have DC := Lib.hid (fun wx => refCheck_ok d wx hd)
  have hm := hd.most
  obtain ⟨M, hM⟩ : ∃ M, M = max d.f.length k := ⟨_, rfl⟩
  rw [pad_form hd k M hM] at ho
  have M1 : d.f.length ≤ M := by omega
  have M2 : k ≤ M := by omega
  have M3 : M = d.f.length ∨ M = k := by omega
  have M4 : M ≤ 40 := by omega
  have HM3 := Lib.hid M3
  have HO1 : 40 < d.i.length + M → Ending.returned (.tuple #[.agg #[.bool false, .string ⟨#[]⟩, .string ⟨#[]⟩], .int .i64 3]) = .returned (.tuple #[.agg #[.bool (oN o), .string (oI o), .string (oF o)], .int .i64 (oE o)]) := fun h => by
    rw [if_pos h] at ho
    rw [← ho]
    rfl
  have HO2 : ¬ 40 < d.i.length + M → Ending.returned (.tuple #[.agg #[.bool d.neg, .string (dStr d.i), .string (dStr (d.f ++ List.replicate (M - d.f.length) 0))], .int .i64 0]) = .returned (.tuple #[.agg #[.bool (oN o), .string (oI o), .string (oF o)], .int .i64 (oE o)]) := fun h => by
    rw [if_neg h] at ho
    rw [← ho]
    rfl
  have DI : Hid (∀ wx : World, Calls Tryd.prog 71 #[.bool false, .int .i64 1] wx fun r w' => r = .returned (.int .i64 0) ∧ wx = w') := fun wx => refIf_any false 1 wx
  have DFi : Hid (∀ (g : Nat) (wx : World), g = wx.heap.size → Calls Tryd.prog 70 #[.slice (some ⟨g, 0, none⟩) 2 2] (wx.alloc (.cells #[.int .i64 0, .int .i64 0] 24)) fun r w' => r = .returned (.int .i64 0) ∧ Below wx.heap.size wx w') := fun g wx hg => by
    subst hg
    refine (refFirst_two 0 0 wx.heap.size _ _ _ (heap_alloc_new wx _)).mono ?_
    rintro e w' ⟨rfl, rfl⟩
    exact ⟨rfl, (Below.refl _ _).alloc (Nat.le_refl _) _⟩
  have si : (dStr d.i).size = d.i.length := dStr_size d.i
  have q0 : decide ((k : Int) < 0) = false := decide_eq_false (by omega)
  have q1 : decide ((40 : Int) < (k : Int)) = false := decide_eq_false (by omega)
  have HO1 := Lib.hid HO1
  have HO2 := Lib.hid HO2
  clear hd hM M3 ho
  go_enter Tryd.func97, Tryd.ntmps97
  go_wp2_with fail
  obtain ⟨W2, hW2⟩ : ∃ W2, W2 = (w.alloc (.cells #[.bool d.neg, .string (dStr d.i), .string (dStr d.f)] 23)).alloc (.cells #[.bool false, .string ⟨#[]⟩, .string ⟨#[]⟩] 23) := ⟨_, rfl⟩
  obtain ⟨hb2, hz2, CA, CR, FR⟩ : Below w.heap.size w W2 ∧ w.heap.size + 2 ≤ W2.heap.size ∧ Cells3 W2 w.heap.size (.bool d.neg) (.string (dStr d.i)) (.string (dStr d.f)) ∧ Cells3 W2 (w.heap.size + 1) (.bool false) (.string ⟨#[]⟩) (.string ⟨#[]⟩) ∧ ∀ i, W2.frozen? ⟨w.heap.size + 1, i, none⟩ = false := by rw [hW2]; exact ⟨below_two w _ _, two_boxes w _ _ _ _ _ _ _⟩
  have FA : ∀ i, W2.frozen? ⟨w.heap.size, i, none⟩ = false := by
    rw [hW2]
    exact frozen_keep (one_box w (.bool d.neg) (.string (dStr d.i)) (.string (dStr d.f)) 23).2.2 ((Below.refl _ _).alloc (Nat.le_refl _) _) (by simp)
  rw [← hW2]
  clear hW2
  (with_reducible refine (DC.out _).mono ?_)
  rintro e W3 ⟨rfl, hb3⟩
  have CA3 := Lib.hid (CA.keep hb3 (by omega))
  have CR3 := Lib.hid (CR.keep hb3 (by omega))
  have FR3 := Lib.hid (frozen_keep FR hb3 (by omega))
  have FA3 := Lib.hid (frozen_keep FA hb3 (by omega))
  have hz3 : w.heap.size + 2 ≤ W3.heap.size := by have := hb3.size; omega
  have B3 := Lib.hid (hb2.trans (hb3.mono hb2.size))
  clear hb3 hb2 CA CR FR FA hz2
  go_wp2_with fail
  (with_reducible refine (DI.out _).mono ?_)
  rintro e4 W4 ⟨rfl, rfl⟩
  go_wp2_with fail
  (with_reducible refine (DFi.out _ _ ?_).mono ?_)
  · rfl
  rintro e5 W5 ⟨rfl, hb5⟩
  have CA5 := Lib.hid (CA3.out.keep hb5 (by omega))
  have CR5 := Lib.hid (CR3.out.keep hb5 (by omega))
  have FR5 := Lib.hid (frozen_keep FR3.out hb5 (by omega))
  have FA5 := Lib.hid (frozen_keep FA3.out hb5 (by omega))
  have B5 := Lib.hid (B3.out.trans (hb5.mono B3.out.size))
  clear hb5 CA3 CR3 FR3 FA3 B3
  go_wp2
  go_loopw [] (fun wr => ∃ j : Nat, j ≤ M - d.f.length ∧ Cells3 wr w.heap.size (.bool d.neg) (.string (dStr d.i)) (.string (dStr (d.f ++ List.replicate j 0))) ∧ Cells3 wr (w.heap.size + 1) (.bool false) (.string ⟨#[]⟩) (.string ⟨#[]⟩) ∧ (∀ i, wr.frozen? ⟨w.heap.size, i, none⟩ = false) ∧ (∀ i, wr.frozen? ⟨w.heap.size + 1, i, none⟩ = false) ∧ Below w.heap.size w wr) (fun wr => M - cellSize wr ⟨w.heap.size, 2, none⟩)
  case atStart => exact ⟨0, Nat.zero_le _, by rw [List.replicate_zero, List.append_nil]; exact CA5.out, CR5.out, FA5.out, FR5.out, B5.out⟩
  case round =>
    obtain ⟨j, hj, hca, hcr, hfa, hfr, hbw⟩ := hrel
    have HCR := Lib.hid hcr
    have HFR := Lib.hid hfr
    have HW := Lib.hid hbw
    obtain ⟨a0, a1, a2⟩ := hca
    clear hcr hfr hbw
    obtain ⟨S, hS⟩ : ∃ S, S = dStr (d.f ++ List.replicate j 0) := ⟨_, rfl⟩
    have hz : S.size = d.f.length + j := by rw [hS, dStr_size, List.length_append, List.length_replicate]
    rw [← hS] at a2
    have HS := Lib.hid hS
    clear hS
    by_cases hgo : d.f.length + j < k
    · have HX := Lib.hid (show S ++ ⟨#[48]⟩ = dStr (d.f ++ List.replicate (j + 1) 0) by rw [HS.out, show (⟨#[48]⟩ : ByteArray) = dStr [0] from rfl, dStr_append, List.append_assoc, ← List.replicate_succ'])
      obtain ⟨S2, hS2⟩ : ∃ S2, S2 = S ++ ⟨#[48]⟩ := ⟨_, rfl⟩
      have hz2 : S2.size = d.f.length + j + 1 := by rw [hS2, HX.out, dStr_size, List.length_append, List.length_replicate]; omega
      have HA := Lib.hid (show Cells3 wr w.heap.size (.bool d.neg) (.string (dStr d.i)) (.string S) from ⟨a0, a1, a2⟩)
      have HFA := Lib.hid hfa
      have HZ := Lib.hid hz
      have HZ2 := Lib.hid hz2
      have x1 := hS2.symm
      have HX2 := Lib.hid (hS2.trans HX.out)
      clear hS2 hz2
      go_wp2
      go_roundw
      case rel =>
        refine ⟨j + 1, by omega, ?_, ?_, ?_, ?_, HW.out.setCell (p := ⟨w.heap.size, 2, none⟩) (Nat.le_refl _) _⟩
        · rw [← HX2.out]
          exact ⟨cell_set_far _ _ _ _ _ _ (by decide) HA.out.1, cell_set_far _ _ _ _ _ _ (by decide) HA.out.2.1, cell_set_same _ _ _ _ HA.out.2.2⟩
        · exact ⟨(World.cell?_setCell_other _ _ _ _ (fun e => by have := congrArg Addr.block e; simp at this)).trans HCR.out.1, (World.cell?_setCell_other _ _ _ _ (fun e => by have := congrArg Addr.block e; simp at this)).trans HCR.out.2.1, (World.cell?_setCell_other _ _ _ _ (fun e => by have := congrArg Addr.block e; simp at this)).trans HCR.out.2.2⟩
        · intro i; simpa using HFA.out i
        · intro i; simpa using HFR.out i
      case measure =>
        unfold cellSize
        rw [cell_set_same _ _ _ _ HA.out.2.2, HA.out.2.2]
        simp only [HZ.out, HZ2.out]
        omega
    · have hjM : Hid (d.f.length + j = M) := by show _ = _; have := HM3.out; omega
      have hjM2 : Hid (j = M - d.f.length) := by show _ = _; have := hjM.out; omega
      obtain ⟨r0, r1, r2⟩ := HCR.out
      have z0 := HFR.out
      by_cases h40 : 40 < d.i.length + (d.f.length + j)
      · have HO := Lib.hid (HO1.out (by have := hjM.out; omega))
        obtain ⟨e0, e1, e2⟩ := res_cells r0 r1 r2 (.bool false) (.string ⟨#[]⟩) (.string ⟨#[]⟩)
        have HBl := Lib.hid (res_below HW.out (Nat.le_succ _) (.bool false) (.string ⟨#[]⟩) (.string ⟨#[]⟩))
        go_wp2
        exact bodyPost_ret (v := .tuple #[.agg #[.bool false, .string ⟨#[]⟩, .string ⟨#[]⟩], .int .i64 3]) (by simp [results, Tryd.results97, go_sem, e0, e1, e2]) rfl ⟨HO.out, HBl.out⟩
      · have HO := Lib.hid (HO2.out (by have := hjM.out; omega))
        have HS2 : Hid (S = dStr (d.f ++ List.replicate (M - d.f.length) 0)) := by show _ = _; rw [HS.out, ← hjM2.out]
        obtain ⟨e0, e1, e2⟩ := res_cells r0 r1 r2 (.bool d.neg) (.string (dStr d.i)) (.string S)
        have HBl := Lib.hid (res_below HW.out (Nat.le_succ _) (.bool d.neg) (.string (dStr d.i)) (.string S))
        go_wp2
        exact bodyPost_ret (v := .tuple #[.agg #[.bool d.neg, .string (dStr d.i), .string S], .int .i64 0]) (by simp [results, Tryd.results97, go_sem, e0, e1, e2]) rfl ⟨by rw [HS2.out]; exact HO.out, HBl.out⟩
end Go.Proofs.YtpbljcjghjbjdaaDoor
