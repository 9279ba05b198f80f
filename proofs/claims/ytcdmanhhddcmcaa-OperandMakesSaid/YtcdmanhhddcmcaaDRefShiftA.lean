/- Shift of the reference, fewer places. -/
import Derived.Test.YtcdmanhhddcmcaaDRefMake
import Derived.Test.YtcdmanhhddcmcaaDRefNum
import Derived.Test.YtcdmanhhddcmcaaDRef1
namespace Go.Proofs.Ytcdmanhhddcmcaa
open Go.RowKit
attribute [local go_sem ↓] Go.wp_at_zero Go.wp_at_succ

set_option maxHeartbeats 4000000 in
set_option maxRecDepth 100000 in
theorem refShift_le (d : Dc) (k : Int) (w : World) (o : Option Dc) (ho : shD d k = o) (hd : d.Ok) (h1 : -40 ≤ k) (h2 : k ≤ 40) (hc : ¬ (d.f.length : Int) < k) :
    Calls Try.prog 41 #[(.agg #[.bool d.neg, .string (dStr d.i), .string (dStr d.f)]), .int .i64 k] w fun e w' => e = .returned (.tuple #[.agg #[.bool (oN o), .string (oI o), .string (oF o)], .int .i64 (oE o)]) ∧ Below w.heap.size w w' := by
  have DC := Lib.hid (fun wx => refCheck_ok d wx hd)
  have hm := hd.most
  have si : (dStr d.i).size = d.i.length := dStr_size d.i
  have sf : (dStr d.f).size = d.f.length := dStr_size d.f
  have DI : Hid (∀ wx : World, Calls Try.prog 40 #[.bool false, .int .i64 1] wx fun r w' => r = .returned (.int .i64 0) ∧ wx = w') := fun wx => refIf_any false 1 wx
  have DFi : Hid (∀ (g : Nat) (wx : World), g = wx.heap.size → Calls Try.prog 38 #[.slice (some ⟨g, 0, none⟩) 2 2] (wx.alloc (.cells #[.int .i64 0, .int .i64 0] 26)) fun r w' => r = .returned (.int .i64 0) ∧ Below wx.heap.size wx w') := fun g wx hg => by
    subst hg
    refine (refFirst_two 0 0 wx.heap.size _ _ _ (heap_alloc_new wx _)).mono ?_
    rintro e w' ⟨rfl, rfl⟩
    exact ⟨rfl, (Below.refl _ _).alloc (Nat.le_refl _) _⟩
  obtain ⟨t, ht⟩ : ∃ t : Nat, (t : Int) = (d.f.length : Int) - k := ⟨((d.f.length : Int) - k).toNat, by omega⟩
  have ht2 : ((d.f.length : Int) - k).toNat = t := by omega
  have hn40 : (digs d.num).length ≤ 40 := (digs_le d.num 40 (by omega)).2 (num_lt hd)
  obtain ⟨S1, hS1⟩ : ∃ S1, S1 = dStr (digs d.num) := ⟨_, rfl⟩
  have DN : Hid (∀ wx : World, Calls Try.prog 74 #[(.agg #[.bool d.neg, .string (dStr d.i), .string (dStr d.f)])] wx fun e w' => e = .returned (.string S1) ∧ Below wx.heap.size wx w') := fun wx => by rw [hS1]; exact refNum_any d wx hd
  have DM : Hid (∀ (wx : World) {sI : Int}, sI = (d.f.length : Int) - k → Calls Try.prog 73 #[.bool d.neg, .string S1, .int .i64 sI] wx fun e w' => e = .returned (.tuple #[.agg #[.bool (oN o), .string (oI o), .string (oF o)], .int .i64 (oE o)]) ∧ Below wx.heap.size wx w') := fun wx sI h => by
    rw [h, ← ht, hS1]
    refine refMake_any d.neg _ t wx o ?_ (digs_digs _) (by omega) (by omega)
    rw [dVal_digs, ← ho]
    unfold shD mkN Dc.z
    rw [if_neg hc, ht2]
  have wz : IntKind.i64.wrap ((d.f.length : Int) - k) = (d.f.length : Int) - k := IntWalk.i64_in _ (by omega)
  clear hS1 hn40 ht ht2
  have q0 : decide (k < -40) = false := decide_eq_false (by omega)
  have q1 : decide (40 < k) = false := decide_eq_false (by omega)
  have qc : decide ((d.f.length : Int) < k) = false := decide_eq_false hc
  clear hd ho
  go_enter Try.func41, Try.ntmps41
  go_wp2_with fail
  obtain ⟨W2, hW2⟩ : ∃ W2, W2 = (w.alloc (.cells #[.bool d.neg, .string (dStr d.i), .string (dStr d.f)] 23)).alloc (.cells #[.bool false, .string ⟨#[]⟩, .string ⟨#[]⟩] 23) := ⟨_, rfl⟩
  obtain ⟨hb2, hz2, CA, CR, FR⟩ : Below w.heap.size w W2 ∧ w.heap.size + 2 ≤ W2.heap.size ∧ Cells3 W2 w.heap.size (.bool d.neg) (.string (dStr d.i)) (.string (dStr d.f)) ∧ Cells3 W2 (w.heap.size + 1) (.bool false) (.string ⟨#[]⟩) (.string ⟨#[]⟩) ∧ ∀ i, W2.frozen? ⟨w.heap.size + 1, i, none⟩ = false := by rw [hW2]; exact ⟨below_two w _ _, two_boxes w _ _ _ _ _ _ _⟩
  rw [← hW2]
  clear hW2
  (with_reducible refine (DC.out _).mono ?_)
  rintro e W3 ⟨rfl, hb3⟩
  have CA3 := Lib.hid (CA.keep hb3 (by omega))
  have CR3 := Lib.hid (CR.keep hb3 (by omega))
  have FR3 := Lib.hid (frozen_keep FR hb3 (by omega))
  have hz3 : w.heap.size + 2 ≤ W3.heap.size := by have := hb3.size; omega
  have B3 := Lib.hid (hb2.trans (hb3.mono hb2.size))
  clear hb3 hb2 CA CR FR hz2
  go_wp2_with fail
  (with_reducible refine (DI.out _).mono ?_)
  rintro e W4 ⟨rfl, rfl⟩
  go_wp2_with fail
  (with_reducible refine (DFi.out _ _ ?_).mono ?_)
  · rfl
  rintro e W5 ⟨rfl, hb5⟩
  obtain ⟨a0, a1, a2⟩ := CA3.out.keep hb5 (by omega)
  have HA := Lib.hid (show Cells3 W5 w.heap.size _ _ _ from ⟨a0, a1, a2⟩)
  have CR5 := Lib.hid (CR3.out.keep hb5 (by omega))
  have FR5 := Lib.hid (frozen_keep FR3.out hb5 (by omega))
  have hz5 : w.heap.size + 2 ≤ W5.heap.size := by have := hb5.size; omega
  have B5 := Lib.hid (B3.out.trans (hb5.mono B3.out.size))
  clear hb5 CA3 CR3 FR3 hz3 B3
  go_wp2_with fail
  go_region_held3 (fun w' => w'.cell? ⟨w.heap.size, 0, none⟩ = some (.bool d.neg) ∧ w'.cell? ⟨w.heap.size, 1, none⟩ = some (.string (dStr d.i)) ∧ w'.cell? ⟨w.heap.size, 2, none⟩ = some (.string (dStr d.f)))
    (first
      | exact ⟨a0, a1, a2⟩
      | (have t := HA.out.keep (undrew hbN) (by omega); exact ⟨t.1, t.2.1, t.2.2⟩)
      | (have t := HA.out.keep hb4 (by omega); exact ⟨t.1, t.2.1, t.2.2⟩)
      | (have t := HA.out.keep hb4 (by omega); exact ⟨(far3 _ _ _ _ _ _ _ (by omega)).trans t.1, (far3 _ _ _ _ _ _ _ (by omega)).trans t.2.1, (far3 _ _ _ _ _ _ _ (by omega)).trans t.2.2⟩)
      | go_keep)
    (first
      | (go_at_call 74; (with_reducible refine (DN.out _).mono ?_); rintro e wN ⟨rfl, hbN⟩)
      | (go_at_call 73; (with_reducible refine (DM.out _ ?_).mono ?_); (focus omega); rintro e wB ⟨rfl, hbM⟩
         have hb4 : Below W5.heap.size W5 wB := by exact (undrew hbN).trans (hbM.mono (undrew hbN).size)
         obtain ⟨r0, r1, r2⟩ := CR5.out.keep hb4 (by omega)
         have z0 := frozen_keep FR5.out hb4 (by omega)))
  obtain ⟨e0, e1, e2⟩ := res_cells r0 r1 r2 (.bool (oN o)) (.string (oI o)) (.string (oF o))
  go_wp2
  exact bodyPost_ret (v := .tuple #[.agg #[.bool (oN o), .string (oI o), .string (oF o)], .int .i64 (oE o)]) (by simp [results, Try.results41, go_sem, e0, e1, e2]) rfl ⟨rfl, res_below (B5.out.trans (hb4.mono B5.out.size)) (by omega) _ _ _⟩
end Go.Proofs.Ytcdmanhhddcmcaa
