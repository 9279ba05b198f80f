/- The reference's Add and Sub; DecimalSums, put together. -/
import Derived.Test.YtmaljkjcibdbgaaLawSums
import Derived.Test.YtmaljkjcibdbgaaDRefCompare
import Derived.Test.YtmaljkjcibdbgaaDRefSumA
import Derived.Test.YtmaljkjcibdbgaaDRefSumB
import Derived.Test.YtmaljkjcibdbgaaDRefMul
import Derived.Test.YtmaljkjcibdbgaaDCompare
import Derived.Test.YtmaljkjcibdbgaaDTop
import Derived.Test.YtmaljkjcibdbgaaDMulT
namespace Go.Proofs.Ytmaljkjcibdbgaa
open Go.RowKit

set_option maxHeartbeats 2000000 in
set_option maxRecDepth 100000 in
theorem refAdd_of (na nb : Bool) (ia fa ib fb : ByteArray) (rn : Bool) (ri rf : ByteArray) (c : Int) (w : World) (HS : ∀ wx : World, Calls Try.prog 58 #[.agg #[.bool na, .string ia, .string fa], .agg #[.bool nb, .string ib, .string fb], .bool false] wx fun r w' => r = .returned (.tuple #[.agg #[.bool rn, .string ri, .string rf], .int .i64 c]) ∧ Below wx.heap.size wx w') :
    Calls Try.prog 19 #[.agg #[.bool na, .string ia, .string fa], .agg #[.bool nb, .string ib, .string fb]] w fun r w' => r = .returned (.tuple #[.agg #[.bool rn, .string ri, .string rf], .int .i64 c]) ∧ Below w.heap.size w w' := by
  have DS := Lib.hid HS
  clear HS
  go_enter Try.func19, Try.ntmps19
  go_wp2_with fail
  obtain ⟨W2, hW2⟩ : ∃ W2, W2 = ((w.alloc (.cells #[.bool na, .string ia, .string fa] 23)).alloc (.cells #[.bool nb, .string ib, .string fb] 23)).alloc (.cells #[.bool false, .string ⟨#[]⟩, .string ⟨#[]⟩] 23) := ⟨_, rfl⟩
  obtain ⟨hb2, hz2, CA, CB, CR, FR⟩ : Below w.heap.size w W2 ∧ w.heap.size + 3 ≤ W2.heap.size ∧ Cells3 W2 w.heap.size (.bool na) (.string ia) (.string fa) ∧ Cells3 W2 (w.heap.size + 1) (.bool nb) (.string ib) (.string fb) ∧ Cells3 W2 (w.heap.size + 2) (.bool false) (.string ⟨#[]⟩) (.string ⟨#[]⟩) ∧ ∀ i, W2.frozen? ⟨w.heap.size + 2, i, none⟩ = false := by rw [hW2]; exact ⟨below_three w _ _ _, three_boxes w _ _ _ _ _ _ _ _ _ _⟩
  rw [← hW2]
  clear hW2
  (with_reducible refine (DS.out _).mono ?_)
  rintro e3 W3 ⟨rfl, hb3⟩
  obtain ⟨r0, r1, r2⟩ := CR.keep hb3 (by omega)
  have z0 := frozen_keep FR hb3 (by omega)
  have B3 := Lib.hid (hb2.trans (hb3.mono hb2.size))
  obtain ⟨e0, e1, e2⟩ := res_cells r0 r1 r2 (.bool rn) (.string ri) (.string rf)
  clear hb3 hb2 CA CB CR FR
  go_wp2
  exact bodyPost_ret (v := .tuple #[.agg #[.bool rn, .string ri, .string rf], .int .i64 c]) (by simp [results, Try.results19, go_sem, e0, e1, e2]) rfl ⟨rfl, res_below B3.out (by omega) _ _ _⟩

set_option maxHeartbeats 2000000 in
set_option maxRecDepth 100000 in
theorem refSub_of (na nb : Bool) (ia fa ib fb : ByteArray) (rn : Bool) (ri rf : ByteArray) (c : Int) (w : World) (HS : ∀ wx : World, Calls Try.prog 58 #[.agg #[.bool na, .string ia, .string fa], .agg #[.bool nb, .string ib, .string fb], .bool true] wx fun r w' => r = .returned (.tuple #[.agg #[.bool rn, .string ri, .string rf], .int .i64 c]) ∧ Below wx.heap.size wx w') :
    Calls Try.prog 22 #[.agg #[.bool na, .string ia, .string fa], .agg #[.bool nb, .string ib, .string fb]] w fun r w' => r = .returned (.tuple #[.agg #[.bool rn, .string ri, .string rf], .int .i64 c]) ∧ Below w.heap.size w w' := by
  have DS := Lib.hid HS
  clear HS
  go_enter Try.func22, Try.ntmps22
  go_wp2_with fail
  obtain ⟨W2, hW2⟩ : ∃ W2, W2 = ((w.alloc (.cells #[.bool na, .string ia, .string fa] 23)).alloc (.cells #[.bool nb, .string ib, .string fb] 23)).alloc (.cells #[.bool false, .string ⟨#[]⟩, .string ⟨#[]⟩] 23) := ⟨_, rfl⟩
  obtain ⟨hb2, hz2, CA, CB, CR, FR⟩ : Below w.heap.size w W2 ∧ w.heap.size + 3 ≤ W2.heap.size ∧ Cells3 W2 w.heap.size (.bool na) (.string ia) (.string fa) ∧ Cells3 W2 (w.heap.size + 1) (.bool nb) (.string ib) (.string fb) ∧ Cells3 W2 (w.heap.size + 2) (.bool false) (.string ⟨#[]⟩) (.string ⟨#[]⟩) ∧ ∀ i, W2.frozen? ⟨w.heap.size + 2, i, none⟩ = false := by rw [hW2]; exact ⟨below_three w _ _ _, three_boxes w _ _ _ _ _ _ _ _ _ _⟩
  rw [← hW2]
  clear hW2
  (with_reducible refine (DS.out _).mono ?_)
  rintro e3 W3 ⟨rfl, hb3⟩
  obtain ⟨r0, r1, r2⟩ := CR.keep hb3 (by omega)
  have z0 := frozen_keep FR hb3 (by omega)
  have B3 := Lib.hid (hb2.trans (hb3.mono hb2.size))
  obtain ⟨e0, e1, e2⟩ := res_cells r0 r1 r2 (.bool rn) (.string ri) (.string rf)
  clear hb3 hb2 CA CB CR FR
  go_wp2
  exact bodyPost_ret (v := .tuple #[.agg #[.bool rn, .string ri, .string rf], .int .i64 c]) (by simp [results, Try.results22, go_sem, e0, e1, e2]) rfl ⟨rfl, res_below B3.out (by omega) _ _ _⟩

theorem refSum_add (a b : Dc) (w : World) (ha : a.Ok) (hb : b.Ok) : Calls Try.prog 58 #[.agg #[.bool a.neg, .string (dStr a.i), .string (dStr a.f)], .agg #[.bool b.neg, .string (dStr b.i), .string (dStr b.f)], .bool false] w fun r w' => r = .returned (.tuple #[.agg #[.bool (oN (sumD a b)), .string (oI (sumD a b)), .string (oF (sumD a b))], .int .i64 (oE (sumD a b))]) ∧ Below w.heap.size w w' := by
  obtain ⟨s, hs⟩ : ∃ s, s = max a.f.length b.f.length := ⟨_, rfl⟩
  have hg : (b.neg == false) = !b.neg := by cases b.neg <;> rfl
  by_cases hn : a.neg = b.neg
  · exact refSum_same a b false b.neg s w _ hs ha hb hg hn (sum_same hs hn)
  · rcases Nat.lt_or_ge (a.raised s) (b.raised s) with h | h
    · exact refSum_second a b false b.neg s w _ hs ha hb hg hn h (sum_second hs hn (Nat.le_of_lt h))
    · exact refSum_first a b false b.neg s w _ hs ha hb hg hn h (sum_first hs hn h)
theorem refSum_sub (a b : Dc) (w : World) (ha : a.Ok) (hb : b.Ok) : Calls Try.prog 58 #[.agg #[.bool a.neg, .string (dStr a.i), .string (dStr a.f)], .agg #[.bool b.neg, .string (dStr b.i), .string (dStr b.f)], .bool true] w fun r w' => r = .returned (.tuple #[.agg #[.bool (oN (subD a b)), .string (oI (subD a b)), .string (oF (subD a b))], .int .i64 (oE (subD a b))]) ∧ Below w.heap.size w w' := by
  obtain ⟨s, hs⟩ : ∃ s, s = max a.f.length b.f.length := ⟨_, rfl⟩
  have hg : (b.neg == true) = !!b.neg := by cases b.neg <;> rfl
  by_cases hn : a.neg = b.neg
  · have hn2 : a.neg ≠ !b.neg := by rw [hn]; cases b.neg <;> decide
    rcases Nat.lt_or_ge (a.raised s) (b.raised s) with h | h
    · exact refSum_second a b true (!b.neg) s w _ hs ha hb hg hn2 h (sub_second hs hn (Nat.le_of_lt h))
    · exact refSum_first a b true (!b.neg) s w _ hs ha hb hg hn2 h (sub_first hs hn h)
  · have hn2 : a.neg = !b.neg := by cases ha1 : a.neg <;> cases hb1 : b.neg <;> simp_all
    have := sub_same hs hn
    rw [hn2] at this
    exact refSum_same a b true (!b.neg) s w _ hs ha hb hg hn2 this

theorem sums_walk (na : Bool) (ia fa : ByteArray) (nb : Bool) (ib fb : ByteArray) (w : World) (h1 : ia.size ≤ 140737488355328) (h2 : fa.size ≤ 140737488355328) (h3 : ib.size ≤ 140737488355328) (h4 : fb.size ≤ 140737488355328) :
    Calls Try.prog 4 #[.agg #[.bool na, .string ia, .string fa], .agg #[.bool nb, .string ib, .string fb]] w fun e w' => e = .returned (.bool true) ∧ Below w.heap.size w w' := by
  cases hka : okB na ia fa with
  | false =>
    have K1 := fun wy => refCheck_bad na ia fa wy h1 h2 hka
    have K2 := fun wy => refCheck_any nb ib fb wy h3 h4
    exact sums_core (w := w) (H0 := fun wx => compare_bad1 na nb ia fa ib fb wx h1 h2 hka) (H1 := fun wx => refCompare_err na nb ia fa ib fb 20 _ 20 wx K1 K2 (by decide) rfl)
      (H2 := fun wx => add_bad1 na nb ia fa ib fb wx h1 h2 hka) (H3 := fun wx => refAdd_of _ _ _ _ _ _ _ _ _ _ wx fun wy => refSum_err na nb ia fa ib fb false 20 _ 20 wy K1 K2 (by decide) rfl)
      (H4 := fun wx => sub_bad1 na nb ia fa ib fb wx h1 h2 hka) (H5 := fun wx => refSub_of _ _ _ _ _ _ _ _ _ _ wx fun wy => refSum_err na nb ia fa ib fb true 20 _ 20 wy K1 K2 (by decide) rfl)
      (H6 := fun wx => mul_bad1 na nb ia fa ib fb wx h1 h2 hka) (H7 := fun wx => refMul_err na nb ia fa ib fb 20 _ 20 wx K1 K2 (by decide) rfl)
  | true =>
    obtain ⟨a, ha, rfl, rfl, rfl⟩ := ok_cases hka
    have K1 := fun wy => refCheck_ok a wy ha
    cases hkb : okB nb ib fb with
    | false =>
      have K2 := fun wy => refCheck_bad nb ib fb wy h3 h4 hkb
      exact sums_core (w := w) (H0 := fun wx => compare_bad2 _ nb _ _ ib fb wx h1 h2 h3 h4 hka hkb) (H1 := fun wx => refCompare_err _ nb _ _ ib fb 0 20 20 wx K1 K2 (by decide) rfl)
        (H2 := fun wx => add_bad2 _ nb _ _ ib fb wx h1 h2 h3 h4 hka hkb) (H3 := fun wx => refAdd_of _ _ _ _ _ _ _ _ _ _ wx fun wy => refSum_err _ nb _ _ ib fb false 0 20 20 wy K1 K2 (by decide) rfl)
        (H4 := fun wx => sub_bad2 _ nb _ _ ib fb wx h1 h2 h3 h4 hka hkb) (H5 := fun wx => refSub_of _ _ _ _ _ _ _ _ _ _ wx fun wy => refSum_err _ nb _ _ ib fb true 0 20 20 wy K1 K2 (by decide) rfl)
        (H6 := fun wx => mul_bad2 _ nb _ _ ib fb wx h1 h2 h3 h4 hka hkb) (H7 := fun wx => refMul_err _ nb _ _ ib fb 0 20 20 wx K1 K2 (by decide) rfl)
    | true =>
      obtain ⟨b, hb, rfl, rfl, rfl⟩ := ok_cases hkb
      exact sums_core (w := w) (H0 := fun wx => compare_ok a b wx ha hb) (H1 := fun wx => refCompare_ok a b wx ha hb)
        (H2 := fun wx => add_ok a b wx _ rfl ha hb) (H3 := fun wx => refAdd_of _ _ _ _ _ _ _ _ _ _ wx fun wy => refSum_add a b wy ha hb)
        (H4 := fun wx => sub_ok a b wx _ rfl ha hb) (H5 := fun wx => refSub_of _ _ _ _ _ _ _ _ _ _ wx fun wy => refSum_sub a b wy ha hb)
        (H6 := fun wx => mul_ok a b wx _ rfl ha hb) (H7 := fun wx => refMul_ok a b wx _ rfl ha hb)
end Go.Proofs.Ytmaljkjcibdbgaa
