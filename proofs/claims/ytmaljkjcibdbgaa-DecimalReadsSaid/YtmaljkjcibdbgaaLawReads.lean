/- DecimalReads: both sides read a text alike. -/
import Derived.Test.YtmaljkjcibdbgaaDRefParse
import Derived.Test.YtmaljkjcibdbgaaDRefParseB
import Derived.Test.YtmaljkjcibdbgaaDRefParseC
import Derived.Test.YtmaljkjcibdbgaaDAwake
namespace Go.Proofs.Ytmaljkjcibdbgaa
open Go.RowKit

set_option maxHeartbeats 2000000 in
set_option maxRecDepth 100000 in
theorem refParse_long (s : ByteArray) (w : World) (hs : s.size ≤ maxLen) (h : 65536 < s.size) :
    Calls Try.prog 14 #[.string s] w fun e w' => e = .returned (.tuple #[.agg #[.bool false, .string ⟨#[]⟩, .string ⟨#[]⟩], .int .i64 2]) ∧ Below w.heap.size w w' := by
  unfold maxLen at hs
  have q65 : decide ((65536 : Int) < (s.size : Int)) = true := decide_eq_true (by omega)
  go_enter Try.func14, Try.ntmps14
  go_upto_region 3 with fail
  obtain ⟨W2, hW2⟩ : ∃ W2, W2 = (w.alloc (.cells #[.bool false, .string ⟨#[]⟩, .string ⟨#[]⟩] 23)).alloc (.cells #[.bool false, .string ⟨#[]⟩, .string ⟨#[]⟩] 23) := ⟨_, rfl⟩
  obtain ⟨hb2, hz2, CR, CD, FD⟩ : Below w.heap.size w W2 ∧ w.heap.size + 2 ≤ W2.heap.size ∧ Cells3 W2 w.heap.size (.bool false) (.string ⟨#[]⟩) (.string ⟨#[]⟩) ∧ Cells3 W2 (w.heap.size + 1) (.bool false) (.string ⟨#[]⟩) (.string ⟨#[]⟩) ∧ ∀ i, W2.frozen? ⟨w.heap.size + 1, i, none⟩ = false := by rw [hW2]; exact ⟨below_two w _ _, two_boxes w _ _ _ _ _ _ _⟩
  have FR : ∀ i, W2.frozen? ⟨w.heap.size, i, none⟩ = false := by
    rw [hW2]
    exact frozen_keep (one_box w (.bool false) (.string ⟨#[]⟩) (.string ⟨#[]⟩) 23).2.2 ((Below.refl _ _).alloc (Nat.le_refl _) _) (by simp)
  rw [← hW2]
  clear hW2 FD
  obtain ⟨r0, r1, r2⟩ := CR
  obtain ⟨d0, d1, d2⟩ := CD
  have B2 := Lib.hid hb2
  obtain ⟨e0, e1, e2⟩ := res_cells r0 r1 r2 (.bool false) (.string ⟨#[]⟩) (.string ⟨#[]⟩)
  clear hb2
  go_wp2
  exact bodyPost_ret (v := .tuple #[.agg #[.bool false, .string ⟨#[]⟩, .string ⟨#[]⟩], .int .i64 2]) (by simp [results, Try.results14, go_sem, e0, e1, e2]) rfl ⟨rfl, res_below B2.out (by omega) _ _ _⟩

theorem refParse_any (s : ByteArray) (w : World) (hs : s.size ≤ maxLen) :
    Calls Try.prog 14 #[.string s] w fun e w' => e = .returned (.tuple #[.agg #[.bool (psN s), .string (psI s), .string (psF s)], .int .i64 (psE s)]) ∧ Below w.heap.size w w' := by
  by_cases hl : 65536 < s.size
  · rw [ps_zero s 2 (ps_long s hl)]
    exact refParse_long s w hs hl
  · cases hN : spN s with
    | true => exact refParse_minus s w hl hN
    | false =>
      by_cases h0 : s.size = 0
      · obtain rfl : s = ⟨#[]⟩ := by
          apply ByteArray.ext
          apply Array.eq_empty_of_size_eq_zero
          exact h0
        have := ps_some ⟨#[]⟩ hl ⟨#[]⟩ (.inl ⟨by decide, rfl⟩)
        rw [if_pos (by decide)] at this
        rw [ps_zero _ 20 this]
        exact refParse_empty w
      · exact refParse_plain s w hl hN (by omega)

set_option maxHeartbeats 2000000 in
set_option maxRecDepth 100000 in
theorem reads_core (s : ByteArray) (dn : Bool) (di df : ByteArray) (c : Int) (w : World) (H1 : ∀ wx : World, Calls Try.prog 13 #[.string s] wx fun e w' => e = .returned (.tuple #[.agg #[.bool dn, .string di, .string df], .int .i64 c]) ∧ Below wx.heap.size wx w') (H2 : ∀ wx : World, Calls Try.prog 14 #[.string s] wx fun e w' => e = .returned (.tuple #[.agg #[.bool dn, .string di, .string df], .int .i64 c]) ∧ Below wx.heap.size wx w') :
    Calls Try.prog 3 #[.string s] w fun e w' => e = .returned (.bool true) ∧ Below w.heap.size w w' := by
  have DW := Lib.hid awake_any
  have D1 := Lib.hid H1
  have D2 := Lib.hid H2
  clear H1 H2
  have q1 : (dn == dn) = true := beq_self_eq_true _
  have q2 : (di.toList == di.toList) = true := beq_self_eq_true _
  have q3 : (df.toList == df.toList) = true := beq_self_eq_true _
  have q4 : (c == c) = true := beq_self_eq_true _
  go_enter Try.func3, Try.ntmps3
  go_wp2_with fail
  (with_reducible refine (D1.out _).mono ?_)
  rintro e V1 ⟨rfl, hb1⟩
  have B1 := Lib.hid hb1
  clear hb1
  go_wp2_with fail
  obtain ⟨W2, hW2⟩ : ∃ W2, W2 = V1.alloc (.cells #[.bool dn, .string di, .string df] 23) := ⟨_, rfl⟩
  obtain ⟨z2, C2, _⟩ : V1.heap.size + 1 ≤ W2.heap.size ∧ Cells3 W2 V1.heap.size (.bool dn) (.string di) (.string df) ∧ ∀ i, W2.frozen? ⟨V1.heap.size, i, none⟩ = false := by rw [hW2]; exact one_box V1 _ _ _ _
  have B2 : Hid (Below w.heap.size w W2) := by show Below _ _ _; rw [hW2]; exact B1.out.alloc B1.out.size _
  rw [← hW2]
  clear hW2
  (with_reducible refine (D2.out _).mono ?_)
  rintro e V3 ⟨rfl, hb3⟩
  have C3 := C2.keep hb3 (by omega)
  have B3 := Lib.hid (B2.out.trans (hb3.mono B2.out.size))
  have z3 : V1.heap.size + 1 ≤ V3.heap.size := by have := hb3.size; omega
  have ba : Below V3.heap.size V3 (V3.alloc (.cells #[.bool dn, .string di, .string df] 23)) := (Below.refl _ _).alloc (Nat.le_refl _) _
  obtain ⟨o0, o1, o2⟩ := C3.keep ba (by omega)
  clear hb3 C2 ba
  go_wp2_with fail
  (with_reducible refine (DW.out _).mono ?_)
  rintro e V4 ⟨rfl, hb4⟩
  go_wp2
  go_ret
  exact ⟨rfl, (B3.out.alloc B3.out.size _).trans (hb4.mono (B3.out.alloc B3.out.size _).size)⟩

theorem reads_walk (s : ByteArray) (w : World) (hs : s.size ≤ 140737488355328) :
    Calls Try.prog 3 #[.string s] w fun e w' => e = .returned (.bool true) ∧ Below w.heap.size w w' :=
  reads_core s _ _ _ _ w (fun wx => parse_any s wx (by unfold maxLen; omega)) (fun wx => refParse_any s wx (by unfold maxLen; omega))
end Go.Proofs.Ytmaljkjcibdbgaa
