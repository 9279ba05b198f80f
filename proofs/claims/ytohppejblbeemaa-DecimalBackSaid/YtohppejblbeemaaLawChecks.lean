/- DecimalChecks: any decimal, whether it may be, its text. -/
import Derived.Test.YtohppejblbeemaaDRef1
import Derived.Test.YtohppejblbeemaaDAwake
import Derived.Deep.QuietTactic
import Derived.BigQuiet
import Derived.Deep.RegionHeld3
namespace Go.Proofs.Ytohppejblbeemaa
open Go.RowKit
attribute [local go_sem ↓] Go.wp_at_zero Go.wp_at_succ

/-- What Print tells: the text and the error. -/
def prS (n : Bool) (i f : ByteArray) : ByteArray := if okB n i f then ⟨(txt ⟨n, i.data.toList, f.data.toList⟩).toArray⟩ else ⟨#[]⟩
theorem prS_ok {d : Dc} (h : d.Ok) : prS d.neg (dStr d.i) (dStr d.f) = txS d := by
  unfold prS
  rw [if_pos (ok_of h), dStr_toList, dStr_toList]
  rfl
theorem prS_bad {n : Bool} {i f : ByteArray} (h : okB n i f = false) : prS n i f = ⟨#[]⟩ := by unfold prS; rw [h]; rfl
theorem print_any (n : Bool) (i f : ByteArray) (w : World) (hi : i.size ≤ 140737488355328) (hf : f.size ≤ 140737488355328) :
    Calls Try.prog 14 #[.agg #[.bool n, .string i, .string f]] w fun e w' => e = .returned (.tuple #[.string (prS n i f), .int .i64 (ckE n i f)]) ∧ Below w.heap.size w w' := by
  cases h : okB n i f with
  | false =>
    rw [prS_bad h, ck_bad h]
    exact print_bad n i f w hi hf h
  | true =>
    obtain ⟨d, hd, rfl, rfl, rfl⟩ := ok_cases h
    rw [prS_ok hd, ck_ok hd]
    exact print_ok d w hd
theorem refPrint_any (n : Bool) (i f : ByteArray) (w : World) (hi : i.size ≤ 140737488355328) (hf : f.size ≤ 140737488355328) :
    Calls Try.prog 15 #[.agg #[.bool n, .string i, .string f]] w fun e w' => e = .returned (.tuple #[.string (prS n i f), .int .i64 (ckE n i f)]) ∧ Below w.heap.size w w' := by
  cases h : okB n i f with
  | false =>
    rw [prS_bad h, ck_bad h]
    exact refPrint_bad n i f w hi hf h
  | true =>
    obtain ⟨d, hd, rfl, rfl, rfl⟩ := ok_cases h
    rw [prS_ok hd, ck_ok hd]
    exact refPrint_ok d w hd

set_option maxHeartbeats 2000000 in
set_option maxRecDepth 100000 in
theorem checks_walk (n : Bool) (i f : ByteArray) (w : World) (hi : i.size ≤ 140737488355328) (hf : f.size ≤ 140737488355328) :
    Calls Try.prog 3 #[.agg #[.bool n, .string i, .string f]] w fun e w' => e = .returned (.bool true) ∧ Below w.heap.size w w' := by
  have D1 := Lib.hid (fun wx => print_any n i f wx hi hf)
  have D2 := Lib.hid (fun wx => refPrint_any n i f wx hi hf)
  have D3 := Lib.hid (fun wx => check_any n i f wx hi hf)
  have D4 := Lib.hid (fun wx => refCheck_any n i f wx hi hf)
  have D5 := Lib.hid awake_any
  generalize prS n i f = s at *
  generalize ckE n i f = c at *
  have q1 : (s.toList == s.toList) = true := beq_self_eq_true _
  have q2 : (c == c) = true := beq_self_eq_true _
  go_enter Try.func3, Try.ntmps3
  go_wp2_with fail
  (with_reducible refine (D1.out _).mono ?_)
  rintro e W1 ⟨rfl, hb⟩
  obtain ⟨_, hC, _⟩ := one_box w (.bool n) (.string i) (.string f) 23
  have C1 := hC.keep hb (by simp)
  have hz1 : w.heap.size + 1 ≤ W1.heap.size := by have := hb.size; simp at this; omega
  have B1 := Lib.hid (((Below.refl _ w).alloc (Nat.le_refl _) (.cells #[.bool n, .string i, .string f] 23)).trans (hb.mono (by simp)))
  clear hb hC
  obtain ⟨c0, c1, c2⟩ := C1
  go_wp2_with fail
  (with_reducible refine (D2.out _).mono ?_)
  rintro e W2 ⟨rfl, hb⟩
  obtain ⟨d0, d1, d2⟩ := (show Cells3 W1 w.heap.size _ _ _ from ⟨c0, c1, c2⟩).keep hb (by omega)
  have hz2 : w.heap.size + 1 ≤ W2.heap.size := by have := hb.size; omega
  have B2 := Lib.hid (B1.out.trans (hb.mono B1.out.size))
  clear hb c0 c1 c2
  have CX := Lib.hid (show Cells3 W2 w.heap.size _ _ _ from ⟨d0, d1, d2⟩)
  go_wp2_with fail
  go_region_held3 (fun w' => w'.cell? ⟨w.heap.size, 0, none⟩ = some (.bool n) ∧ w'.cell? ⟨w.heap.size, 1, none⟩ = some (.string i) ∧ w'.cell? ⟨w.heap.size, 2, none⟩ = some (.string f))
    (first
      | exact ⟨d0, d1, d2⟩
      | (have t := CX.out.keep (undrew hbA) (by omega); exact ⟨t.1, t.2.1, t.2.2⟩)
      | (have t := CX.out.keep (undrew hbB) (by omega); exact ⟨t.1, t.2.1, t.2.2⟩)
      | (have v := (undrew hbA).trans (hbB.mono (undrew hbA).size); have t := CX.out.keep v (by omega); exact ⟨t.1, t.2.1, t.2.2⟩)
      | (have v := (undrew hbB).trans (hbA.mono (undrew hbB).size); have t := CX.out.keep v (by omega); exact ⟨t.1, t.2.1, t.2.2⟩)
      | (have t := CX.out.keep (hbE.trans (hbC.mono hbE.size)) (by omega); exact ⟨t.1, t.2.1, t.2.2⟩)
      | go_keep)
    (first
      | (go_at_call 16; (with_reducible refine (D3.out _).mono ?_); rintro e wA ⟨rfl, hbA⟩)
      | (go_at_call 17; (with_reducible refine (D4.out _).mono ?_); rintro e wB ⟨rfl, hbB⟩)
      | (go_at_call 18; (with_reducible refine (D5.out _).mono ?_); rintro e wC ⟨rfl, hbC⟩
         have hbE := (undrew hbA).trans (hbB.mono (undrew hbA).size)))
  go_wp2
  go_ret
  exact ⟨rfl, B2.out.trans ((hbE.trans (hbC.mono hbE.size)).mono B2.out.size)⟩
end Go.Proofs.Ytohppejblbeemaa
