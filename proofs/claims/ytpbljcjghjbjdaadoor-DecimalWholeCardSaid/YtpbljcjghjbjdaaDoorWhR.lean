/- DecimalWhole: the reference's Of and Int64. -/
import Derived.Test.YtpbljcjghjbjdaaDoorWhM
import Derived.Test.YtpbljcjghjbjdaaDoorShelf
import Derived.Lib.AtoiErrMem
import Derived.Lib.AppendIntMem
namespace Go.Proofs.YtpbljcjghjbjdaaDoor
open Go.RowKit
attribute [local go_sem ↓] Go.wp_at_zero Go.wp_at_succ

def Tab10 (w : World) : Prop := Lib.TabIs Tryd.prog w "internal/strconv.uint64pow10" .u64 Lib.pow10Tab
theorem format_any (n : Int) (w : World) (h0 : -9223372036854775808 ≤ n) (h1 : n ≤ 9223372036854775807) (hT : Tab10 w) :
    Calls Tryd.prog 47 #[.int .i64 n, .int .i64 10] w fun e w' => e = .returned (.string ⟨(Lib.itoa n).toArray⟩) ∧ Below w.heap.size w w' :=
  (Tryd.strconv_FormatInt_10 n h0 h1 w hT).mono fun e w' ⟨he, k, os, hw⟩ => ⟨he, by rw [hw]; exact Lib.below_grow _ w (Nat.le_refl _) k os⟩
theorem parseint_ok (s : ByteArray) (v : Int) (w : World) (hs : s.size ≤ 1000) (h : Lib.parseIntB 64 s.data.toList = .ok v) :
    Calls Tryd.prog 45 #[.string s, .int .i64 10, .int .i64 64] w fun e w' => e = .returned (.tuple #[.int .i64 v, .nilIface]) ∧ Below w.heap.size w w' :=
  (Tryd.strconv_ParseInt_10_at64_ok s (by omega) v h w).mono fun e w' ⟨he, hw⟩ => ⟨he, by
    rcases hw with hw | ⟨t, hw⟩
    · rw [hw]; exact Below.refl _ _
    · rw [hw]; exact Lib.bytesWorld_below _ _ _⟩

theorem Tab10.keep {w w' : World} (h : Tab10 w) (hb : Below w.heap.size w w') : Tab10 w' := by
  unfold Tab10 Lib.TabIs World.var? at *
  rw [show Tryd.prog.globalNamed "internal/strconv.uint64pow10" = some 4 by kernel_rfl] at *
  simp only [Option.bind_some] at *
  split at h
  · rename_i c t fr hh
    rw [hb.block _ (Array.getElem?_eq_some_iff.1 hh).1, hh]
    exact h
  · cases h
set_option maxHeartbeats 2000000 in
set_option maxRecDepth 100000 in
theorem refOf_pos (n : Int) (w : World) (h0 : 0 ≤ n) (h1 : n ≤ 9223372036854775807) (hT : Tab10 w) :
    Calls Tryd.prog 13 #[.int .i64 n] w fun e w' => e = .returned (.agg #[.bool false, .string (dStr (digs n.natAbs)), .string ⟨#[]⟩]) ∧ Below w.heap.size w w' := by
  have q1 : decide (n < 0) = false := decide_eq_false (by omega)
  have D := fun wx => format_any n wx (by omega) h1
  rw [itoa_pos h0] at D
  have DF := Lib.hid D
  obtain ⟨S, hS⟩ : ∃ S, S = dStr (digs n.natAbs) := ⟨_, rfl⟩
  rw [← hS] at DF ⊢
  have hb1 : Below w.heap.size w (w.alloc (.cells #[.bool false, .string ⟨#[]⟩, .string ⟨#[]⟩] 23)) := (Below.refl _ w).alloc (Nat.le_refl _) _
  have HT := Lib.hid (hT.keep hb1)
  obtain ⟨z1, CR, FR⟩ := one_box w (.bool false) (.string ⟨#[]⟩) (.string ⟨#[]⟩) 23
  have HB1 := Lib.hid hb1
  clear D hT hS h0 h1 hb1
  go_enter Tryd.func13, Tryd.ntmps13
  go_wp2_with fail
  (with_reducible refine (DF.out _ HT.out).mono ?_)
  rintro e V3 ⟨rfl, hb3⟩
  obtain ⟨r0, r1, r2⟩ := CR.keep hb3 (by omega)
  have z0 := frozen_keep FR hb3 (by omega)
  have B3 := Lib.hid (HB1.out.trans (hb3.mono HB1.out.size))
  clear hb3 CR FR
  obtain ⟨e0, e1, e2⟩ := res_cells r0 r1 r2 (.bool false) (.string S) (.string ⟨#[]⟩)
  go_wp2
  exact bodyPost_ret (v := .agg #[.bool false, .string S, .string ⟨#[]⟩]) (by simp [results, Tryd.results13, go_sem, e0, e1, e2]) rfl ⟨rfl, res_below B3.out (Nat.le_refl _) _ _ _⟩
set_option maxHeartbeats 2000000 in
set_option maxRecDepth 100000 in
theorem refOf_neg (n : Int) (w : World) (h0 : n < 0) (h1 : -9223372036854775808 ≤ n) (hT : Tab10 w) :
    Calls Tryd.prog 13 #[.int .i64 n] w fun e w' => e = .returned (.agg #[.bool true, .string (dStr (digs n.natAbs)), .string ⟨#[]⟩]) ∧ Below w.heap.size w w' := by
  have q1 : decide (n < 0) = true := decide_eq_true h0
  obtain ⟨L, hL⟩ : ∃ L : ByteArray, L = ⟨(Lib.itoa n).toArray⟩ := ⟨_, rfl⟩
  have D := fun wx => format_any n wx h1 (by omega)
  rw [← hL] at D
  have DF := Lib.hid D
  obtain ⟨S, hS⟩ : ∃ S, S = dStr (digs n.natAbs) := ⟨_, rfl⟩
  have hsz : L.size = 1 + (digs n.natAbs).length := by
    rw [hL, itoa_minus h0]
    show (List.toArray _).size = _
    simp [dB]
    omega
  have hcut : L.extract 1 L.size = S := by
    rw [hS, hL, itoa_minus h0]
    apply ByteArray.ext
    simp [ByteArray.data_extract, dStr, dB]
    refine List.take_of_length_le ?_
    show _ ≤ (List.toArray _).size - 1
    simp
  have hs1 : 1 ≤ L.size := by omega
  have hs2 : L.size ≤ 1000 := by
    have h2 := (digs_le n.natAbs 20 (by omega)).2 (by omega)
    omega
  have HC := Lib.hid hcut
  rw [← hS]
  have hb1 : Below w.heap.size w (w.alloc (.cells #[.bool false, .string ⟨#[]⟩, .string ⟨#[]⟩] 23)) := (Below.refl _ w).alloc (Nat.le_refl _) _
  have HT := Lib.hid (hT.keep hb1)
  obtain ⟨z1, CR, FR⟩ := one_box w (.bool false) (.string ⟨#[]⟩) (.string ⟨#[]⟩) 23
  have HB1 := Lib.hid hb1
  clear D hT hS h0 h1 hb1 hL hsz hcut
  go_enter Tryd.func13, Tryd.ntmps13
  go_wp2_with fail
  (with_reducible refine (DF.out _ HT.out).mono ?_)
  rintro e V3 ⟨rfl, hb3⟩
  obtain ⟨r0, r1, r2⟩ := CR.keep hb3 (by omega)
  have z0 := frozen_keep FR hb3 (by omega)
  have B3 := Lib.hid (HB1.out.trans (hb3.mono HB1.out.size))
  clear hb3 CR FR
  obtain ⟨e0, e1, e2⟩ := res_cells r0 r1 r2 (.bool true) (.string S) (.string ⟨#[]⟩)
  go_wp2_with fail
  rw [HC.out]
  go_wp2
  exact bodyPost_ret (v := .agg #[.bool true, .string S, .string ⟨#[]⟩]) (by simp [results, Tryd.results13, go_sem, e0, e1, e2]) rfl ⟨rfl, res_below B3.out (Nat.le_refl _) _ _ _⟩
theorem wled {l : List Nat} (h : Digs l) (hl : l.length = 1 ∨ ∃ x, l.head? = some x ∧ x ≠ 0) : digs (dVal l) = l := by
  rw [← dLead_digs l h]
  cases l with
  | nil => rcases hl with h | ⟨x, h, -⟩ <;> simp at h
  | cons a t =>
    cases t with
    | nil => rfl
    | cons b t =>
      rcases hl with h | ⟨x, h1, h2⟩
      · simp at h
      · simp at h1
        subst h1
        exact if_neg h2

theorem ok_digs {d : Dc} (h : d.Ok) : digs (dVal d.i) = d.i := wled h.di h.lead
theorem most_pos : (⟨#[57, 50, 50, 51, 51, 55, 50, 48, 51, 54, 56, 53, 52, 55, 55, 53, 56, 48, 55]⟩ : ByteArray) = dStr (digs 9223372036854775807) := by kernel_rfl
theorem most_neg : (⟨#[57, 50, 50, 51, 51, 55, 50, 48, 51, 54, 56, 53, 52, 55, 55, 53, 56, 48, 56]⟩ : ByteArray) = dStr (digs 9223372036854775808) := by kernel_rfl

set_option maxHeartbeats 2000000 in
set_option maxRecDepth 100000 in
theorem refint_bad (n : Bool) (i f : ByteArray) (w : World) (h1 : i.size ≤ 140737488355328) (h2 : f.size ≤ 140737488355328) (h : okB n i f = false) :
    Calls Tryd.prog 11 #[.agg #[.bool n, .string i, .string f]] w fun e w' => e = .returned (.tuple #[.int .i64 0, .int .i64 20]) ∧ Below w.heap.size w w' := by
  have DC := Lib.hid (fun wx => refCheck_bad n i f wx h1 h2 h)
  clear h h1 h2
  go_enter Tryd.func11, Tryd.ntmps11
  go_wp2_with fail
  (with_reducible refine (DC.out _).mono ?_)
  rintro e V3 ⟨rfl, hb3⟩
  have B3 := Lib.hid (((Below.refl _ w).alloc (Nat.le_refl _) _).trans (hb3.mono (by simp)))
  clear hb3
  go_wp2
  go_ret2
  exact ⟨rfl, B3.out⟩

set_option maxHeartbeats 2000000 in
set_option maxRecDepth 100000 in
theorem refint_ok_pos (d : Dc) (w : World) (hd : d.Ok) (hn : d.neg = false) :
    Calls Tryd.prog 11 #[.agg #[.bool false, .string (dStr d.i), .string (dStr d.f)]] w fun e w' => e = .returned (.tuple #[.int .i64 (i64V d), .int .i64 (i64C d)]) ∧ Below w.heap.size w w' := by
  have C1 := fun wx => refCheck_ok d wx hd
  rw [hn] at C1
  have DC := Lib.hid C1
  clear C1
  have hsz : (dStr d.f).size ≤ 1000 := by rw [dStr_size]; have := hd.most; omega
  have DN := Lib.hid (fun wx => noughts_any (dStr d.f) wx (Nat.le_trans hsz (by decide)))
  have D2 := fun wx => refCmp_any (dVal d.i) 9223372036854775807 wx (by rw [ok_digs hd]; have := hd.most; omega) (by decide +kernel)
  rw [ok_digs hd, ← most_pos] at D2
  have DM := Lib.hid D2
  clear D2
  obtain ⟨z1, CR, FR⟩ := one_box w (.bool false) (.string (dStr d.i)) (.string (dStr d.f)) 23
  have HB1 : Hid (Below w.heap.size w (w.alloc (.cells #[.bool false, .string (dStr d.i), .string (dStr d.f)] 23))) := (Below.refl _ w).alloc (Nat.le_refl _) _
  cases hz : zrB (dStr d.f) with
  | false =>
    have hV : Hid (i64V d = 0 ∧ i64C d = 22) := by show _; unfold i64V i64C; rw [fits_frac hz]; exact ⟨rfl, rfl⟩
    rw [hV.out.1, hV.out.2]
    rw [hz] at DN
    clear hz hV
    go_enter Tryd.func11, Tryd.ntmps11
    go_wp2_with fail
    (with_reducible refine (DC.out _).mono ?_)
    rintro e V3 ⟨rfl, hb3⟩
    obtain ⟨r0, r1, r2⟩ := CR.keep hb3 (by omega)
    have B3 := Lib.hid (HB1.out.trans (hb3.mono HB1.out.size))
    clear hb3 CR FR
    go_wp2_with fail
    (with_reducible refine (DN.out _).mono ?_)
    rintro e V4 ⟨rfl, rfl⟩
    go_wp2
    go_ret2
    exact ⟨rfl, B3.out⟩
  | true =>
    rw [hz] at DN
    have DN2 := Lib.hid DN.out
    by_cases hm : 9223372036854775807 < dVal d.i
    · have hV : Hid (i64V d = 0 ∧ i64C d = 22) := by show _; unfold i64V i64C; rw [fits_big (by unfold mostN; rw [hn]; exact hm)]; exact ⟨rfl, rfl⟩
      rw [hV.out.1, hV.out.2]
      have qc : decide (0 < cmpN (dVal d.i) 9223372036854775807) = true := by
        refine decide_eq_true ?_
        unfold cmpN
        split
        · omega
        · split <;> omega
      clear hz hV hm DN
      go_enter Tryd.func11, Tryd.ntmps11
      go_wp2_with fail
      (with_reducible refine (DC.out _).mono ?_)
      rintro e V3 ⟨rfl, hb3⟩
      obtain ⟨r0, r1, r2⟩ := CR.keep hb3 (by omega)
      have B3 := Lib.hid (HB1.out.trans (hb3.mono HB1.out.size))
      clear hb3 CR FR
      go_wp2_with fail
      (with_reducible refine (DN2.out _).mono ?_)
      rintro e V4 ⟨rfl, rfl⟩
      go_wp2_with fail
      (with_reducible refine (DM.out _).mono ?_)
      rintro e V5 ⟨rfl, rfl⟩
      go_wp2
      go_ret2
      exact ⟨rfl, B3.out⟩
    · have hV : Hid (i64V d = (dVal d.i : Int) ∧ i64C d = 0) := by
        show _
        unfold i64V i64C
        rw [fits_yes hz (by unfold mostN; rw [hn]; show dVal d.i ≤ 9223372036854775807; omega), hn]
        exact ⟨rfl, rfl⟩
      rw [hV.out.1, hV.out.2]
      have qc : decide (0 < cmpN (dVal d.i) 9223372036854775807) = false := by
        refine decide_eq_false ?_
        unfold cmpN
        split
        · omega
        · split <;> omega
      have DT := Lib.hid (fun wx => refText_any ⟨false, d.i, []⟩ wx (by have := hd.most; simp; omega))
      obtain ⟨T, hT⟩ : ∃ T, T = txS ⟨false, d.i, []⟩ := ⟨_, rfl⟩
      rw [← hT] at DT
      have hTs : T.size ≤ 1000 := by
        have h1 : T.data.toList.length = T.size := by simp
        rw [hT, text_pos] at h1
        rw [hT]
        have := hd.most
        simp [dB] at h1
        omega
      have DP := Lib.hid (fun wx => parseint_ok T _ wx hTs (by rw [hT, text_pos]; exact parse_pos hd.di hd.one (by omega)))
      have hE : dStr [] = ⟨#[]⟩ := rfl
      simp only [hE] at DT
      clear hz hV hm DN hT hE
      go_enter Tryd.func11, Tryd.ntmps11
      go_wp2_with fail
      (with_reducible refine (DC.out _).mono ?_)
      rintro e V3 ⟨rfl, hb3⟩
      obtain ⟨r0, r1, r2⟩ := CR.keep hb3 (by omega)
      have fz := frozen_keep FR hb3 (by omega)
      have hz3 := hb3.size
      have B3 := Lib.hid (HB1.out.trans (hb3.mono HB1.out.size))
      clear hb3 CR FR
      go_wp2_with fail
      (with_reducible refine (DN2.out _).mono ?_)
      rintro e V4 ⟨rfl, rfl⟩
      go_wp2_with fail
      (with_reducible refine (DM.out _).mono ?_)
      rintro e V5 ⟨rfl, rfl⟩
      go_wp2_with fail
      (with_reducible refine (DT.out _).mono ?_)
      rintro e V6 ⟨rfl, hb6⟩
      have B6 := Lib.hid ((B3.out.setCell (p := ⟨w.heap.size, 2, none⟩) (Nat.le_refl _) (.string ⟨#[]⟩)).trans (hb6.mono (by simp; exact B3.out.size)))
      clear hb6
      go_wp2_with fail
      (with_reducible refine (DP.out _).mono ?_)
      rintro e V7 ⟨rfl, hb7⟩
      have B7 := Lib.hid (B6.out.trans (hb7.mono B6.out.size))
      clear hb7
      go_wp2
      go_ret2
      exact ⟨rfl, B7.out⟩

set_option maxHeartbeats 2000000 in
set_option maxRecDepth 100000 in
theorem refint_ok_neg (d : Dc) (w : World) (hd : d.Ok) (hn : d.neg = true) :
    Calls Tryd.prog 11 #[.agg #[.bool true, .string (dStr d.i), .string (dStr d.f)]] w fun e w' => e = .returned (.tuple #[.int .i64 (i64V d), .int .i64 (i64C d)]) ∧ Below w.heap.size w w' := by
  have C1 := fun wx => refCheck_ok d wx hd
  rw [hn] at C1
  have DC := Lib.hid C1
  clear C1
  have hsz : (dStr d.f).size ≤ 1000 := by rw [dStr_size]; have := hd.most; omega
  have DN := Lib.hid (fun wx => noughts_any (dStr d.f) wx (Nat.le_trans hsz (by decide)))
  have D2 := fun wx => refCmp_any (dVal d.i) 9223372036854775808 wx (by rw [ok_digs hd]; have := hd.most; omega) (by decide +kernel)
  rw [ok_digs hd, ← most_neg] at D2
  have DM := Lib.hid D2
  clear D2
  obtain ⟨z1, CR, FR⟩ := one_box w (.bool true) (.string (dStr d.i)) (.string (dStr d.f)) 23
  have HB1 : Hid (Below w.heap.size w (w.alloc (.cells #[.bool true, .string (dStr d.i), .string (dStr d.f)] 23))) := (Below.refl _ w).alloc (Nat.le_refl _) _
  cases hz : zrB (dStr d.f) with
  | false =>
    have hV : Hid (i64V d = 0 ∧ i64C d = 22) := by show _; unfold i64V i64C; rw [fits_frac hz]; exact ⟨rfl, rfl⟩
    rw [hV.out.1, hV.out.2]
    rw [hz] at DN
    clear hz hV
    go_enter Tryd.func11, Tryd.ntmps11
    go_wp2_with fail
    (with_reducible refine (DC.out _).mono ?_)
    rintro e V3 ⟨rfl, hb3⟩
    obtain ⟨r0, r1, r2⟩ := CR.keep hb3 (by omega)
    have B3 := Lib.hid (HB1.out.trans (hb3.mono HB1.out.size))
    clear hb3 CR FR
    go_wp2_with fail
    (with_reducible refine (DN.out _).mono ?_)
    rintro e V4 ⟨rfl, rfl⟩
    go_wp2
    go_ret2
    exact ⟨rfl, B3.out⟩
  | true =>
    rw [hz] at DN
    have DN2 := Lib.hid DN.out
    by_cases hm : 9223372036854775808 < dVal d.i
    · have hV : Hid (i64V d = 0 ∧ i64C d = 22) := by show _; unfold i64V i64C; rw [fits_big (by unfold mostN; rw [hn]; exact hm)]; exact ⟨rfl, rfl⟩
      rw [hV.out.1, hV.out.2]
      have qc : decide (0 < cmpN (dVal d.i) 9223372036854775808) = true := by
        refine decide_eq_true ?_
        unfold cmpN
        split
        · omega
        · split <;> omega
      clear hz hV hm DN
      go_enter Tryd.func11, Tryd.ntmps11
      go_wp2_with fail
      (with_reducible refine (DC.out _).mono ?_)
      rintro e V3 ⟨rfl, hb3⟩
      obtain ⟨r0, r1, r2⟩ := CR.keep hb3 (by omega)
      have B3 := Lib.hid (HB1.out.trans (hb3.mono HB1.out.size))
      clear hb3 CR FR
      go_wp2_with fail
      (with_reducible refine (DN2.out _).mono ?_)
      rintro e V4 ⟨rfl, rfl⟩
      go_wp2_with fail
      (with_reducible refine (DM.out _).mono ?_)
      rintro e V5 ⟨rfl, rfl⟩
      go_wp2
      go_ret2
      exact ⟨rfl, B3.out⟩
    · have hV : Hid (i64V d = -(dVal d.i : Int) ∧ i64C d = 0) := by
        show _
        unfold i64V i64C
        rw [fits_yes hz (by unfold mostN; rw [hn]; show dVal d.i ≤ 9223372036854775808; omega), hn]
        exact ⟨rfl, rfl⟩
      rw [hV.out.1, hV.out.2]
      have qc : decide (0 < cmpN (dVal d.i) 9223372036854775808) = false := by
        refine decide_eq_false ?_
        unfold cmpN
        split
        · omega
        · split <;> omega
      have DT := Lib.hid (fun wx => refText_any ⟨true, d.i, []⟩ wx (by have := hd.most; simp; omega))
      obtain ⟨T, hT⟩ : ∃ T, T = txS ⟨true, d.i, []⟩ := ⟨_, rfl⟩
      rw [← hT] at DT
      have hTs : T.size ≤ 1000 := by
        have h1 : T.data.toList.length = T.size := by simp
        rw [hT, text_neg] at h1
        rw [hT]
        have := hd.most
        simp [dB] at h1
        omega
      have DP := Lib.hid (fun wx => parseint_ok T _ wx hTs (by rw [hT, text_neg]; exact parse_neg hd.di hd.one (by omega)))
      have hE : dStr [] = ⟨#[]⟩ := rfl
      simp only [hE] at DT
      clear hz hV hm DN hT hE
      go_enter Tryd.func11, Tryd.ntmps11
      go_wp2_with fail
      (with_reducible refine (DC.out _).mono ?_)
      rintro e V3 ⟨rfl, hb3⟩
      obtain ⟨r0, r1, r2⟩ := CR.keep hb3 (by omega)
      have fz := frozen_keep FR hb3 (by omega)
      have hz3 := hb3.size
      have B3 := Lib.hid (HB1.out.trans (hb3.mono HB1.out.size))
      clear hb3 CR FR
      go_wp2_with fail
      (with_reducible refine (DN2.out _).mono ?_)
      rintro e V4 ⟨rfl, rfl⟩
      go_wp2_with fail
      (with_reducible refine (DM.out _).mono ?_)
      rintro e V5 ⟨rfl, rfl⟩
      go_wp2_with fail
      (with_reducible refine (DT.out _).mono ?_)
      rintro e V6 ⟨rfl, hb6⟩
      have B6 := Lib.hid ((B3.out.setCell (p := ⟨w.heap.size, 2, none⟩) (Nat.le_refl _) (.string ⟨#[]⟩)).trans (hb6.mono (by simp; exact B3.out.size)))
      clear hb6
      go_wp2_with fail
      (with_reducible refine (DP.out _).mono ?_)
      rintro e V7 ⟨rfl, hb7⟩
      have B7 := Lib.hid (B6.out.trans (hb7.mono B6.out.size))
      clear hb7
      go_wp2
      go_ret2
      exact ⟨rfl, B7.out⟩
end Go.Proofs.YtpbljcjghjbjdaaDoor
