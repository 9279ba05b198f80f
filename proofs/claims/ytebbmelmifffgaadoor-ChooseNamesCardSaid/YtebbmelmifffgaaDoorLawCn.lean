/- ChooseNames: the law's walk. -/
import Derived.Test.YtebbmelmifffgaaDoorCnA
namespace Go.Proofs.YtebbmelmifffgaaDoor
open Go.RowKit

set_option maxHeartbeats 4000000 in
set_option maxRecDepth 100000 in
theorem cnames_core (z c : Int) (t s : ByteArray) (w : World) (hT : TabC w)
    (H1 : ∀ wx : World, TabC wx → Calls Tryd.prog 19 #[.int .i64 z] wx fun e w' => e = .returned (.tuple #[.string t, .int .i64 c]) ∧ Below wx.heap.size wx w')
    (H2 : ∀ wx : World, Calls Tryd.prog 20 #[.int .i64 z] wx fun e w' => e = .returned (.tuple #[.string t, .int .i64 c]) ∧ Below wx.heap.size wx w') :
    Calls Tryd.prog 6 #[.int .i64 z, .string s] w fun e w' => e = .returned (.bool true) ∧ Below w.heap.size w w' := by
  have HT := Lib.hid hT
  have A1 := Lib.hid H1
  have A2 := Lib.hid H2
  have A3 := Lib.hid (fun wx (h : TabC wx) => cbyname_any s wx h)
  have A4 := Lib.hid (fun wx => rcbyname_any s wx)
  have A6 := Lib.hid (fun wx (h : TabC wx) => cawake_any wx h)
  obtain ⟨y, hy⟩ : ∃ y, y = catFrom s 6 0 := ⟨_, rfl⟩
  rw [← hy] at A3 A4
  clear hy hT H1 H2
  obtain ⟨m, g⟩ := y
  have q1 : (t.toList == t.toList) = true := beq_self_eq_true _
  have q2 : (m == m) = true := beq_self_eq_true _
  have q3 : (g == g) = true := beq_self_eq_true _
  have q4 : (c == c) = true := beq_self_eq_true _
  go_enter Tryd.func6, Tryd.ntmps6
  have HB := Lib.hid (Below.refl w.heap.size w)
  go_wp2_with fail
  (with_reducible refine (A1.out _ HT.out).mono ?_)
  rintro e V0 ⟨rfl, hb⟩
  replace HT := Lib.hid (HT.out.keep hb)
  replace HB := Lib.hid (HB.out.trans (hb.mono HB.out.size))
  clear hb
  go_wp2_with fail
  (with_reducible refine (A2.out _).mono ?_)
  rintro e V1 ⟨rfl, hb⟩
  replace HT := Lib.hid (HT.out.keep hb)
  replace HB := Lib.hid (HB.out.trans (hb.mono HB.out.size))
  clear hb
  go_wp2_with fail
  (with_reducible refine (A6.out _ HT.out).mono ?_)
  rintro e V2 ⟨rfl, hb⟩
  replace HT := Lib.hid (HT.out.keep hb)
  replace HB := Lib.hid (HB.out.trans (hb.mono HB.out.size))
  clear hb
  go_wp2_with fail
  (with_reducible refine (A3.out _ HT.out).mono ?_)
  rintro e V3 ⟨rfl, hb⟩
  replace HT := Lib.hid (HT.out.keep hb)
  replace HB := Lib.hid (HB.out.trans (hb.mono HB.out.size))
  clear hb
  go_wp2_with fail
  (with_reducible refine (A4.out _).mono ?_)
  rintro e V4 ⟨rfl, hb⟩
  replace HT := Lib.hid (HT.out.keep hb)
  replace HB := Lib.hid (HB.out.trans (hb.mono HB.out.size))
  clear hb
  go_wp2
  go_ret
  exact ⟨rfl, HB.out⟩
theorem cnames_walk (z : Int) (s : ByteArray) (w : World) (hT : TabC w) : Calls Tryd.prog 6 #[.int .i64 z, .string s] w fun e w' => e = .returned (.bool true) ∧ Below w.heap.size w w' := by
  cases h : catB z with
  | true =>
    unfold catB at h
    rw [Bool.and_eq_true] at h
    have h1 := of_decide_eq_true h.1
    have h2 := of_decide_eq_true h.2
    obtain ⟨k, rfl⟩ : ∃ k : Nat, z = (k : Int) := ⟨z.toNat, by omega⟩
    exact cnames_core k 0 (nmC k) s w hT (fun wx ht => cname_in k wx (by omega) ht) (fun wx => rcname_in k wx (by omega))
  | false => exact cnames_core z 61 ⟨#[]⟩ s w hT (fun wx _ => cname_out z wx h) (fun wx => rcname_out z wx h)
end Go.Proofs.YtebbmelmifffgaaDoor
