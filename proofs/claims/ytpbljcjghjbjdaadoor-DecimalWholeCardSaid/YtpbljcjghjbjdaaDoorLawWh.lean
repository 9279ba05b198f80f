/- DecimalWhole: the law's walk. -/
import Derived.Test.YtpbljcjghjbjdaaDoorWhR
import Derived.Test.YtpbljcjghjbjdaaDoorDAwake
namespace Go.Proofs.YtpbljcjghjbjdaaDoor
open Go.RowKit
attribute [local go_sem ↓] Go.wp_at_zero Go.wp_at_succ

set_option maxHeartbeats 4000000 in
set_option maxRecDepth 100000 in
theorem wh_core (k : Int) (n : Bool) (i f : ByteArray) (v c : Int) (sn : Bool) (S : ByteArray) (w : World) (hT : Tab10 w)
    (H1 : ∀ wx : World, Calls Tryd.prog 10 #[.agg #[.bool n, .string i, .string f]] wx fun e w' => e = .returned (.tuple #[.int .i64 v, .int .i64 c]) ∧ Below wx.heap.size wx w')
    (H2 : ∀ wx : World, Calls Tryd.prog 11 #[.agg #[.bool n, .string i, .string f]] wx fun e w' => e = .returned (.tuple #[.int .i64 v, .int .i64 c]) ∧ Below wx.heap.size wx w')
    (H3 : ∀ wx : World, Calls Tryd.prog 12 #[.int .i64 k] wx fun e w' => e = .returned (.agg #[.bool sn, .string S, .string ⟨#[]⟩]) ∧ Below wx.heap.size wx w')
    (H4 : ∀ wx : World, Tab10 wx → Calls Tryd.prog 13 #[.int .i64 k] wx fun e w' => e = .returned (.agg #[.bool sn, .string S, .string ⟨#[]⟩]) ∧ Below wx.heap.size wx w') :
    Calls Tryd.prog 3 #[.int .i64 k, .agg #[.bool n, .string i, .string f]] w fun e w' => e = .returned (.bool true) ∧ Below w.heap.size w w' := by
  have D1 := Lib.hid H1
  have D2 := Lib.hid H2
  have D3 := Lib.hid H3
  have D4 := Lib.hid H4
  have DW := Lib.hid (fun wx => awake_any wx)
  have q1 : (v == v) = true := beq_self_eq_true _
  have q2 : (c == c) = true := beq_self_eq_true _
  have q3 : (sn == sn) = true := beq_self_eq_true _
  have q4 : (S.toList == S.toList) = true := beq_self_eq_true _
  have hb1 : Below w.heap.size w (w.alloc (.cells #[.bool n, .string i, .string f] 23)) := (Below.refl _ w).alloc (Nat.le_refl _) _
  have HT := Lib.hid (hT.keep hb1)
  have HB1 := Lib.hid hb1
  have CR := (one_box w (.bool n) (.string i) (.string f) 23).2.1
  clear H1 H2 H3 H4 hT hb1
  go_enter Tryd.func3, Tryd.ntmps3
  go_wp2_with fail
  (with_reducible refine (D1.out _).mono ?_)
  rintro e V1 ⟨rfl, hb⟩
  obtain ⟨o0, o1, o2⟩ := CR.keep hb (by simp)
  have CR1 := Lib.hid (CR.keep hb (by simp))
  replace HT := Lib.hid (HT.out.keep hb)
  have HB := Lib.hid (HB1.out.trans (hb.mono HB1.out.size))
  clear hb CR HB1
  go_wp2_with fail
  (with_reducible refine (D2.out _).mono ?_)
  rintro e V2 ⟨rfl, hb⟩
  replace HT := Lib.hid (HT.out.keep hb)
  replace HB := Lib.hid (HB.out.trans (hb.mono HB.out.size))
  clear hb o0 o1 o2
  go_wp2_with fail
  (with_reducible refine (D3.out _).mono ?_)
  rintro e V3 ⟨rfl, hb⟩
  replace HT := Lib.hid (HT.out.keep hb)
  replace HB := Lib.hid (HB.out.trans (hb.mono HB.out.size))
  clear hb
  go_wp2_with fail
  (with_reducible refine (D4.out _ HT.out).mono ?_)
  rintro e V4 ⟨rfl, hb⟩
  replace HT := Lib.hid (HT.out.keep hb)
  replace HB := Lib.hid (HB.out.trans (hb.mono HB.out.size))
  clear hb
  go_wp2_with fail
  (with_reducible refine (DW.out _).mono ?_)
  rintro e V5 ⟨rfl, hb⟩
  replace HB := Lib.hid (HB.out.trans (hb.mono HB.out.size))
  clear hb
  go_wp2
  go_ret
  exact ⟨rfl, HB.out⟩

theorem whole_walk (k : Int) (n : Bool) (i f : ByteArray) (w : World) (k1 : -9223372036854775808 ≤ k) (k2 : k ≤ 9223372036854775807) (hi : i.size ≤ 140737488355328) (hf : f.size ≤ 140737488355328) (hT : Tab10 w) :
    Calls Tryd.prog 3 #[.int .i64 k, .agg #[.bool n, .string i, .string f]] w fun e w' => e = .returned (.bool true) ∧ Below w.heap.size w w' := by
  have go : ∀ (v c : Int), (∀ wx : World, Calls Tryd.prog 10 #[.agg #[.bool n, .string i, .string f]] wx fun e w' => e = .returned (.tuple #[.int .i64 v, .int .i64 c]) ∧ Below wx.heap.size wx w') →
      (∀ wx : World, Calls Tryd.prog 11 #[.agg #[.bool n, .string i, .string f]] wx fun e w' => e = .returned (.tuple #[.int .i64 v, .int .i64 c]) ∧ Below wx.heap.size wx w') →
      Calls Tryd.prog 3 #[.int .i64 k, .agg #[.bool n, .string i, .string f]] w fun e w' => e = .returned (.bool true) ∧ Below w.heap.size w w' := by
    intro v c h1 h2
    by_cases h0 : 0 ≤ k
    · exact wh_core k n i f v c _ _ w hT h1 h2 (fun wx => of_false k wx h0 k2) (fun wx h => refOf_pos k wx h0 k2 h)
    · exact wh_core k n i f v c _ _ w hT h1 h2 (fun wx => of_true k wx (by omega) k1) (fun wx h => refOf_neg k wx (by omega) k1 h)
  cases hk : okB n i f with
  | false => exact go 0 20 (fun wx => int64_bad n i f wx hi hf hk) (fun wx => refint_bad n i f wx hi hf hk)
  | true =>
    obtain ⟨d, hd, rfl, rfl, rfl⟩ := ok_cases hk
    cases hn : d.neg with
    | false => rw [hn] at go; exact go _ _ (fun wx => int64_false d wx hd hn) (fun wx => refint_ok_pos d wx hd hn)
    | true => rw [hn] at go; exact go _ _ (fun wx => int64_true d wx hd hn) (fun wx => refint_ok_neg d wx hd hn)
end Go.Proofs.YtpbljcjghjbjdaaDoor
