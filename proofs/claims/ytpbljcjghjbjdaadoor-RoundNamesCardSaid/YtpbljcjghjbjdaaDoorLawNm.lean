/- RoundNames: the law's walk. -/
import Derived.Test.YtpbljcjghjbjdaaDoorNmB
namespace Go.Proofs.YtpbljcjghjbjdaaDoor
open Go.RowKit
attribute [local go_sem ↓] Go.wp_at_zero Go.wp_at_succ

theorem TabN.keep {W w' : World} (h : TabN W) (hb : Below W.heap.size W w') : TabN w' :=
  fun k hk => (hb.cell (p := ⟨0, k, none⟩) (World.block_lt_of_cell? W _ (h k hk))).trans (h k hk)

set_option maxHeartbeats 4000000 in
set_option maxRecDepth 100000 in
theorem names_in (k : Nat) (s : ByteArray) (w : World) (hk : k < 8) (hT : TabN w) :
    Calls Tryd.prog 4 #[.int .i64 ((k : Int) + 1), .string s] w fun e w' => e = .returned (.bool true) ∧ Below w.heap.size w w' := by
  have HT := Lib.hid hT
  have A1 := Lib.hid (fun wx (h : TabN wx) => name_in k wx hk h)
  have A2 := Lib.hid (fun wx => rname_in k wx hk)
  have A3 := Lib.hid (fun wx (h : TabN wx) => byname_any s wx h)
  have A4 := Lib.hid (fun wx => rbyname_any s wx)
  have A5 := fun wx (h : TabN wx) => byname_any (nmS (k + 1)) wx h
  rw [byFrom_self k hk] at A5
  replace A5 := Lib.hid A5
  have A6 := Lib.hid (fun wx => rawake_any wx)
  obtain ⟨y, hy⟩ : ∃ y, y = byFrom s 8 0 := ⟨_, rfl⟩
  rw [← hy] at A3 A4
  clear hy hT
  obtain ⟨m, g⟩ := y
  obtain ⟨t, ht⟩ : ∃ t, t = nmS (k + 1) := ⟨_, rfl⟩
  rw [← ht] at A1 A2 A5
  clear ht
  have q1 : (t.toList == t.toList) = true := beq_self_eq_true _
  have q2 : (m == m) = true := beq_self_eq_true _
  have q3 : (g == g) = true := beq_self_eq_true _
  have q4 : ((k : Int) + 1 == (k : Int) + 1) = true := beq_self_eq_true _
  go_enter Tryd.func4, Tryd.ntmps4
  have HB := Lib.hid (Below.refl w.heap.size w)
  go_wp2_with fail
  (with_reducible refine (A1.out _ HT.out).mono ?_)
  rintro e V0 ⟨rfl, hb⟩
  replace HT := Lib.hid (HT.out.keep hb)
  replace HB := Lib.hid (HB.out.trans (hb.mono HB.out.size))
  clear hb
  go_wp2_with fail
  (with_reducible refine (A2.out _).mono ?_)
  rintro e V1 ⟨rfl, hb⟩
  replace HT := Lib.hid (HT.out.keep hb)
  replace HB := Lib.hid (HB.out.trans (hb.mono HB.out.size))
  clear hb
  go_wp2_with fail
  (with_reducible refine (A3.out _ HT.out).mono ?_)
  rintro e V2 ⟨rfl, hb⟩
  replace HT := Lib.hid (HT.out.keep hb)
  replace HB := Lib.hid (HB.out.trans (hb.mono HB.out.size))
  clear hb
  go_wp2_with fail
  (with_reducible refine (A4.out _).mono ?_)
  rintro e V3 ⟨rfl, hb⟩
  replace HT := Lib.hid (HT.out.keep hb)
  replace HB := Lib.hid (HB.out.trans (hb.mono HB.out.size))
  clear hb
  go_wp2_with fail
  (with_reducible refine (A5.out _ HT.out).mono ?_)
  rintro e V4 ⟨rfl, hb⟩
  replace HT := Lib.hid (HT.out.keep hb)
  replace HB := Lib.hid (HB.out.trans (hb.mono HB.out.size))
  clear hb
  go_wp2_with fail
  (with_reducible refine (A6.out _).mono ?_)
  rintro e V5 ⟨rfl, hb⟩
  replace HT := Lib.hid (HT.out.keep hb)
  replace HB := Lib.hid (HB.out.trans (hb.mono HB.out.size))
  clear hb
  go_wp2
  go_ret
  exact ⟨rfl, HB.out⟩

set_option maxHeartbeats 4000000 in
set_option maxRecDepth 100000 in
theorem names_out (z : Int) (s : ByteArray) (w : World) (hz : ¬ (1 ≤ z ∧ z ≤ 8)) (hT : TabN w) :
    Calls Tryd.prog 4 #[.int .i64 z, .string s] w fun e w' => e = .returned (.bool true) ∧ Below w.heap.size w w' := by
  have HT := Lib.hid hT
  have A1 := Lib.hid (fun wx => name_out z wx hz)
  have A2 := Lib.hid (fun wx => rname_out z wx hz)
  have A3 := Lib.hid (fun wx (h : TabN wx) => byname_any s wx h)
  have A4 := Lib.hid (fun wx => rbyname_any s wx)
  have A6 := Lib.hid (fun wx => rawake_any wx)
  obtain ⟨y, hy⟩ : ∃ y, y = byFrom s 8 0 := ⟨_, rfl⟩
  rw [← hy] at A3 A4
  clear hy hT hz
  obtain ⟨m, g⟩ := y
  have q2 : (m == m) = true := beq_self_eq_true _
  have q3 : (g == g) = true := beq_self_eq_true _
  go_enter Tryd.func4, Tryd.ntmps4
  have HB := Lib.hid (Below.refl w.heap.size w)
  go_wp2_with fail
  (with_reducible refine (A1.out _).mono ?_)
  rintro e V0 ⟨rfl, hb⟩
  replace HT := Lib.hid (HT.out.keep hb)
  replace HB := Lib.hid (HB.out.trans (hb.mono HB.out.size))
  clear hb
  go_wp2_with fail
  (with_reducible refine (A2.out _).mono ?_)
  rintro e V1 ⟨rfl, hb⟩
  replace HT := Lib.hid (HT.out.keep hb)
  replace HB := Lib.hid (HB.out.trans (hb.mono HB.out.size))
  clear hb
  go_wp2_with fail
  (with_reducible refine (A3.out _ HT.out).mono ?_)
  rintro e V2 ⟨rfl, hb⟩
  replace HT := Lib.hid (HT.out.keep hb)
  replace HB := Lib.hid (HB.out.trans (hb.mono HB.out.size))
  clear hb
  go_wp2_with fail
  (with_reducible refine (A4.out _).mono ?_)
  rintro e V3 ⟨rfl, hb⟩
  replace HT := Lib.hid (HT.out.keep hb)
  replace HB := Lib.hid (HB.out.trans (hb.mono HB.out.size))
  clear hb
  go_wp2_with fail
  (with_reducible refine (A6.out _).mono ?_)
  rintro e V4 ⟨rfl, hb⟩
  replace HT := Lib.hid (HT.out.keep hb)
  replace HB := Lib.hid (HB.out.trans (hb.mono HB.out.size))
  clear hb
  go_wp2
  go_ret
  exact ⟨rfl, HB.out⟩

theorem names_walk (z : Int) (s : ByteArray) (w : World) (hT : TabN w) :
    Calls Tryd.prog 4 #[.int .i64 z, .string s] w fun e w' => e = .returned (.bool true) ∧ Below w.heap.size w w' := by
  by_cases h : 1 ≤ z ∧ z ≤ 8
  · obtain ⟨k, rfl⟩ : ∃ k : Nat, z = (k : Int) + 1 := ⟨(z - 1).toNat, by omega⟩
    exact names_in k s w (by omega) hT
  · exact names_out z s w h hT
end Go.Proofs.YtpbljcjghjbjdaaDoor
