/- isIn of the program. -/
import Derived.Test.YtmggdnnffdaffaaDoorOpU
import Derived.Deep.RegionHeld3
import Derived.Deep.RegionWith
namespace Go.Proofs.YtmggdnnffdaffaaDoor
open Go.RowKit
attribute [local go_sem ↓] Go.wp_at_zero Go.wp_at_succ
/-- The five cells of a relation. -/
def Cells5 (w : World) (b : Nat) (x0 x1 x2 x3 x4 : Value) : Prop :=
  w.cell? ⟨b, 0, none⟩ = some x0 ∧ w.cell? ⟨b, 1, none⟩ = some x1 ∧ w.cell? ⟨b, 2, none⟩ = some x2 ∧ w.cell? ⟨b, 3, none⟩ = some x3 ∧ w.cell? ⟨b, 4, none⟩ = some x4
theorem Cells5.keep {W w' : World} {b : Nat} {x0 x1 x2 x3 x4 : Value} (h : Cells5 W b x0 x1 x2 x3 x4) (hb : Below W.heap.size W w') (hlt : b < W.heap.size) : Cells5 w' b x0 x1 x2 x3 x4 :=
  ⟨(hb.cell (p := ⟨b, 0, none⟩) hlt).trans h.1, (hb.cell (p := ⟨b, 1, none⟩) hlt).trans h.2.1, (hb.cell (p := ⟨b, 2, none⟩) hlt).trans h.2.2.1, (hb.cell (p := ⟨b, 3, none⟩) hlt).trans h.2.2.2.1, (hb.cell (p := ⟨b, 4, none⟩) hlt).trans h.2.2.2.2⟩
theorem five_box (w : World) (x0 x1 x2 x3 x4 : Value) (t : TypeId) : w.heap.size + 1 ≤ (w.alloc (.cells #[x0, x1, x2, x3, x4] t)).heap.size ∧ Cells5 (w.alloc (.cells #[x0, x1, x2, x3, x4] t)) w.heap.size x0 x1 x2 x3 x4 ∧ ∀ i, (w.alloc (.cells #[x0, x1, x2, x3, x4] t)).frozen? ⟨w.heap.size, i, none⟩ = false :=
  ⟨by simp, ⟨by simp, by simp, by simp, by simp, by simp⟩, fun i => by simp⟩

set_option maxHeartbeats 2000000 in
set_option maxRecDepth 100000 in
theorem isIn_frac (xn : Bool) (xi xf rO rM : ByteArray) (rN : Bool) (sv : Value) (w : World) (hx : xf.size ≠ 0) :
    Calls Tryd.prog 25 #[.agg #[.bool xn, .string xi, .string xf], .agg #[.string rO, .string rM, .bool rN, .bool false, sv]] w fun e w' => e = .returned (.bool false) ∧ Below w.heap.size w w' := by
  have n1 : ¬ xf.toList = [] := fun h => hx (toList_nil.1 h)
  have n2 : xf.toList.isEmpty = false := by simpa using n1
  go_enter Tryd.func25, Tryd.ntmps25
  go_wp2
  go_ret
  exact ⟨rfl, below_two w _ _⟩

set_option maxHeartbeats 8000000 in
set_option maxRecDepth 100000 in
theorem isIn_within (xn : Bool) (xi xf rO rM : ByteArray) (rN : Bool) (l : List (ByteArray × ByteArray)) (g n cap : Nat) (p q : Nat → Bool) (w : World) (hs : Spn w g l) (hg : g < w.heap.size) (hl : l.length = n) (hm : n ≤ 64)
    (H1 : ∀ k, k < n → ∀ wx : World, Calls Tryd.prog 45 #[.agg #[.bool false, .string (l.getD k dp).1, .string ⟨#[]⟩], .agg #[.bool xn, .string xi, .string xf]] wx fun e w' => e = .returned (.bool (p k)) ∧ Below wx.heap.size wx w')
    (H2 : ∀ k, k < n → ∀ wx : World, Calls Tryd.prog 45 #[.agg #[.bool xn, .string xi, .string xf], .agg #[.bool false, .string (l.getD k dp).2, .string ⟨#[]⟩]] wx fun e w' => e = .returned (.bool (q k)) ∧ Below wx.heap.size wx w') :
    Calls Tryd.prog 25 #[.agg #[.bool xn, .string xi, .string xf], .agg #[.string rO, .string rM, .bool rN, .bool true, .slice (some ⟨g, 0, none⟩) n cap]] w fun e w' => e = .returned (.bool (decide (∃ k, k < n ∧ p k = true ∧ q k = true))) ∧ Below w.heap.size w w' := by
  have HS := Lib.hid hs
  have HL := Lib.hid hl
  have HA1 := Lib.hid H1
  have HA2 := Lib.hid H2
  clear hs H1 H2 hl
  go_enter Tryd.func25, Tryd.ntmps25
  go_wp2_with (fail)
  obtain ⟨W2, hW2⟩ : ∃ W2, W2 = (w.alloc (.cells #[.bool xn, .string xi, .string xf] 27)).alloc (.cells #[.string rO, .string rM, .bool rN, .bool true, .slice (some ⟨g, 0, none⟩) n cap] 40) := ⟨_, rfl⟩
  obtain ⟨hb2, hz2, CX⟩ : Below w.heap.size w W2 ∧ w.heap.size + 2 ≤ W2.heap.size ∧ Cells3 W2 w.heap.size (.bool xn) (.string xi) (.string xf) := by
    rw [hW2]
    exact ⟨below_two w _ _, by simp, (one_box w (.bool xn) (.string xi) (.string xf) 27).2.1.keep ((Below.refl _ _).alloc (Nat.le_refl _) _) (by simp)⟩
  rw [← hW2]
  have HB2 := Lib.hid hb2
  have HX2 := Lib.hid CX
  clear hW2 hb2 CX
  go_loopw [18] (fun i wr => ∃ k : Nat, i = .int .i64 k ∧ k ≤ n ∧ (∀ j, j < k → ¬ (p j = true ∧ q j = true)) ∧ Below W2.heap.size W2 wr) (fun i _ => n - (intOf i).toNat)
  case atStart => exact ⟨0, rfl, by omega, fun j hj => by omega, Below.refl _ _⟩
  case round =>
    obtain ⟨k, rfl, hk, hD, hbw⟩ := hrel
    have HDJ := Lib.hid hD
    have HW := Lib.hid hbw
    have hz := hbw.size
    clear hD hbw
    by_cases hlt : k < n
    · obtain ⟨c0, c1⟩ := ((HS.out.keep HB2.out hg).keep HW.out (by omega)) k (by rw [HL.out]; exact hlt)
      have D1 := Lib.hid (HA1.out k hlt)
      have D2 := Lib.hid (HA2.out k hlt)
      obtain ⟨x0, x1, x2⟩ := HX2.out.keep HW.out (by omega)
      generalize hx : l.getD k dp = x at *
      clear hx
      obtain ⟨lo, hi⟩ := x
      simp only at c0 c1
      have DW1 := Lib.hid (fun wx => whole_any lo wx)
      have DW2 := Lib.hid (fun wx => whole_any hi wx)
      obtain ⟨V, hV⟩ : ∃ V, V = wr.alloc (.cells #[.string lo, .string hi] 76) := ⟨_, rfl⟩
      obtain ⟨s0, s1⟩ := two_box wr (.string lo) (.string hi) 76
      have hbV0 : Below wr.heap.size wr V := by rw [hV]; exact (Below.refl _ _).alloc (Nat.le_refl _) _
      rw [← hV] at s0 s1
      have hbV : Below W2.heap.size W2 V := by rw [hV]; exact HW.out.alloc HW.out.size _
      have hzV : wr.heap.size + 1 ≤ V.heap.size := by rw [hV]; simp
      have HBV := Lib.hid hbV
      have S0 := Lib.hid s0
      have S1 := Lib.hid s1
      have XV := Lib.hid ((HX2.out.keep HW.out (by omega)).keep hbV0 (by omega))
      have HV := Lib.hid hV
      clear hV hbV hbV0 s0 s1
      cases hp : p k with
      | false =>
        rw [hp] at D1
        have PK := Lib.hid hp
        clear hp D2
        go_wp2_with fail
        rw [← HV.out]
        clear x0 x1 x2
        obtain ⟨x0, x1, x2⟩ := XV.out
        have s0 := S0.out
        have s1 := S1.out
        first
          | (go_region_with (first | (go_at_call 44; (with_reducible refine (DW1.out _).mono ?_); rintro e wA ⟨rfl, hbA⟩; have hA : Below V.heap.size V wA := undrew hbA; obtain ⟨xa0, xa1, xa2⟩ := XV.out.keep hA (by omega)) | (go_at_call 45; (with_reducible refine (D1.out _).mono ?_); rintro e wB ⟨rfl, hbB⟩; have hB : Below V.heap.size V wB := hA.trans (hbB.mono hA.size))))
          | fail "region"
        all_goals
          have hend := Lib.hid (HBV.out.trans (hB.mono HBV.out.size))
          go_wp2
          go_roundw
          case rel => exact ⟨k + 1, by go_num, by omega, fun j hj => by
            by_cases e : j = k
            · subst e; rw [PK.out]; rintro ⟨h, -⟩; cases h
            · exact HDJ.out j (by omega), hend.out⟩
          case measure => simp [intOf]; omega
      | true =>
        rw [hp] at D1
        have PK := Lib.hid hp
        clear hp
        cases hq : q k with
        | false =>
          rw [hq] at D2
          have QK := Lib.hid hq
          clear hq
          go_wp2_with fail
          rw [← HV.out]
          clear x0 x1 x2
          obtain ⟨x0, x1, x2⟩ := XV.out
          have s0 := S0.out
          have s1 := S1.out
          (go_region_held3 (fun w' => w'.cell? ⟨wr.heap.size, 0, none⟩ = some (.string lo) ∧ w'.cell? ⟨wr.heap.size, 1, none⟩ = some (.string hi) ∧ w'.cell? ⟨w.heap.size, 0, none⟩ = some (.bool xn) ∧ w'.cell? ⟨w.heap.size, 1, none⟩ = some (.string xi) ∧ w'.cell? ⟨w.heap.size, 2, none⟩ = some (.string xf)) (first | (with_reducible exact ⟨s0, s1, x0, x1, x2⟩) | (with_reducible exact ⟨(drew_cell _ _).trans s0, (drew_cell _ _).trans s1, (drew_cell _ _).trans x0, (drew_cell _ _).trans x1, (drew_cell _ _).trans x2⟩) | (have t0 := (hA.cell (p := ⟨wr.heap.size, 0, none⟩) (by show wr.heap.size < _; omega)).trans S0.out; have t1 := (hA.cell (p := ⟨wr.heap.size, 1, none⟩) (by show wr.heap.size < _; omega)).trans S1.out; have t := XV.out.keep hA (by omega); obtain ⟨u0, u1, u2⟩ := t; with_reducible exact ⟨t0, t1, u0, u1, u2⟩) | (have t0 := (hB.cell (p := ⟨wr.heap.size, 0, none⟩) (by show wr.heap.size < _; omega)).trans S0.out; have t1 := (hB.cell (p := ⟨wr.heap.size, 1, none⟩) (by show wr.heap.size < _; omega)).trans S1.out; have t := XV.out.keep hB (by omega); obtain ⟨u0, u1, u2⟩ := t; with_reducible exact ⟨t0, t1, u0, u1, u2⟩) | (have t0 := (hC.cell (p := ⟨wr.heap.size, 0, none⟩) (by show wr.heap.size < _; omega)).trans S0.out; have t1 := (hC.cell (p := ⟨wr.heap.size, 1, none⟩) (by show wr.heap.size < _; omega)).trans S1.out; have t := XV.out.keep hC (by omega); obtain ⟨u0, u1, u2⟩ := t; with_reducible exact ⟨t0, t1, u0, u1, u2⟩) | (have t0 := (hD.cell (p := ⟨wr.heap.size, 0, none⟩) (by show wr.heap.size < _; omega)).trans S0.out; have t1 := (hD.cell (p := ⟨wr.heap.size, 1, none⟩) (by show wr.heap.size < _; omega)).trans S1.out; have t := XV.out.keep hD (by omega); obtain ⟨u0, u1, u2⟩ := t; with_reducible exact ⟨t0, t1, u0, u1, u2⟩)) (first | (go_at_call 44; (with_reducible refine (DW1.out _).mono ?_); rintro e wA ⟨rfl, hbA⟩; have hA : Below V.heap.size V wA := undrew hbA) | (go_at_call 45; (with_reducible refine (D1.out _).mono ?_); rintro e wB ⟨rfl, hbB⟩; have hB : Below V.heap.size V wB := hA.trans (hbB.mono hA.size)) | (go_at_call 44; (with_reducible refine (DW2.out _).mono ?_); rintro e wC ⟨rfl, hbC⟩; have hC : Below V.heap.size V wC := hB.trans (hbC.mono hB.size)) | (go_at_call 45; (with_reducible refine (D2.out _).mono ?_); rintro e wD ⟨rfl, hbD⟩; have hD : Below V.heap.size V wD := hC.trans (hbD.mono hC.size))))
          all_goals
            have hend := Lib.hid (HBV.out.trans (hD.mono HBV.out.size))
            go_wp2
            go_roundw
            case rel => exact ⟨k + 1, by go_num, by omega, fun j hj => by
              by_cases e : j = k
              · subst e; rw [QK.out]; rintro ⟨-, h⟩; cases h
              · exact HDJ.out j (by omega), hend.out⟩
            case measure => simp [intOf]; omega
        | true =>
          rw [hq] at D2
          have QK := Lib.hid hq
          clear hq
          go_wp2_with fail
          rw [← HV.out]
          clear x0 x1 x2
          obtain ⟨x0, x1, x2⟩ := XV.out
          have s0 := S0.out
          have s1 := S1.out
          (go_region_held3 (fun w' => w'.cell? ⟨wr.heap.size, 0, none⟩ = some (.string lo) ∧ w'.cell? ⟨wr.heap.size, 1, none⟩ = some (.string hi) ∧ w'.cell? ⟨w.heap.size, 0, none⟩ = some (.bool xn) ∧ w'.cell? ⟨w.heap.size, 1, none⟩ = some (.string xi) ∧ w'.cell? ⟨w.heap.size, 2, none⟩ = some (.string xf)) (first | (with_reducible exact ⟨s0, s1, x0, x1, x2⟩) | (with_reducible exact ⟨(drew_cell _ _).trans s0, (drew_cell _ _).trans s1, (drew_cell _ _).trans x0, (drew_cell _ _).trans x1, (drew_cell _ _).trans x2⟩) | (have t0 := (hA.cell (p := ⟨wr.heap.size, 0, none⟩) (by show wr.heap.size < _; omega)).trans S0.out; have t1 := (hA.cell (p := ⟨wr.heap.size, 1, none⟩) (by show wr.heap.size < _; omega)).trans S1.out; have t := XV.out.keep hA (by omega); obtain ⟨u0, u1, u2⟩ := t; with_reducible exact ⟨t0, t1, u0, u1, u2⟩) | (have t0 := (hB.cell (p := ⟨wr.heap.size, 0, none⟩) (by show wr.heap.size < _; omega)).trans S0.out; have t1 := (hB.cell (p := ⟨wr.heap.size, 1, none⟩) (by show wr.heap.size < _; omega)).trans S1.out; have t := XV.out.keep hB (by omega); obtain ⟨u0, u1, u2⟩ := t; with_reducible exact ⟨t0, t1, u0, u1, u2⟩) | (have t0 := (hC.cell (p := ⟨wr.heap.size, 0, none⟩) (by show wr.heap.size < _; omega)).trans S0.out; have t1 := (hC.cell (p := ⟨wr.heap.size, 1, none⟩) (by show wr.heap.size < _; omega)).trans S1.out; have t := XV.out.keep hC (by omega); obtain ⟨u0, u1, u2⟩ := t; with_reducible exact ⟨t0, t1, u0, u1, u2⟩) | (have t0 := (hD.cell (p := ⟨wr.heap.size, 0, none⟩) (by show wr.heap.size < _; omega)).trans S0.out; have t1 := (hD.cell (p := ⟨wr.heap.size, 1, none⟩) (by show wr.heap.size < _; omega)).trans S1.out; have t := XV.out.keep hD (by omega); obtain ⟨u0, u1, u2⟩ := t; with_reducible exact ⟨t0, t1, u0, u1, u2⟩)) (first | (go_at_call 44; (with_reducible refine (DW1.out _).mono ?_); rintro e wA ⟨rfl, hbA⟩; have hA : Below V.heap.size V wA := undrew hbA) | (go_at_call 45; (with_reducible refine (D1.out _).mono ?_); rintro e wB ⟨rfl, hbB⟩; have hB : Below V.heap.size V wB := hA.trans (hbB.mono hA.size)) | (go_at_call 44; (with_reducible refine (DW2.out _).mono ?_); rintro e wC ⟨rfl, hbC⟩; have hC : Below V.heap.size V wC := hB.trans (hbC.mono hB.size)) | (go_at_call 45; (with_reducible refine (D2.out _).mono ?_); rintro e wD ⟨rfl, hbD⟩; have hD : Below V.heap.size V wD := hC.trans (hbD.mono hC.size))))
          all_goals
            have hend := Lib.hid (HB2.out.trans ((HBV.out.trans (hD.mono HBV.out.size)).mono HB2.out.size))
            go_wp2
            go_ret
            exact ⟨ret_bool (decide_eq_true ⟨k, hlt, PK.out, QK.out⟩).symm, hend.out⟩
    · go_wp2
      go_ret
      refine ⟨ret_bool (decide_eq_false ?_).symm, HB2.out.trans (HW.out.mono HB2.out.size)⟩
      rintro ⟨j, hj, h1, h2⟩
      exact HDJ.out j (by omega) ⟨h1, h2⟩

set_option maxHeartbeats 8000000 in
set_option maxRecDepth 100000 in
theorem isIn_whole (xn : Bool) (xi rO rM : ByteArray) (rN : Bool) (l : List (ByteArray × ByteArray)) (g n cap : Nat) (p q : Nat → Bool) (w : World) (hs : Spn w g l) (hg : g < w.heap.size) (hl : l.length = n) (hm : n ≤ 64)
    (H1 : ∀ k, k < n → ∀ wx : World, Calls Tryd.prog 45 #[.agg #[.bool false, .string (l.getD k dp).1, .string ⟨#[]⟩], .agg #[.bool xn, .string xi, .string ⟨#[]⟩]] wx fun e w' => e = .returned (.bool (p k)) ∧ Below wx.heap.size wx w')
    (H2 : ∀ k, k < n → ∀ wx : World, Calls Tryd.prog 45 #[.agg #[.bool xn, .string xi, .string ⟨#[]⟩], .agg #[.bool false, .string (l.getD k dp).2, .string ⟨#[]⟩]] wx fun e w' => e = .returned (.bool (q k)) ∧ Below wx.heap.size wx w') :
    Calls Tryd.prog 25 #[.agg #[.bool xn, .string xi, .string ⟨#[]⟩], .agg #[.string rO, .string rM, .bool rN, .bool false, .slice (some ⟨g, 0, none⟩) n cap]] w fun e w' => e = .returned (.bool (decide (∃ k, k < n ∧ p k = true ∧ q k = true))) ∧ Below w.heap.size w w' := by
  have HS := Lib.hid hs
  have HL := Lib.hid hl
  have HA1 := Lib.hid H1
  have HA2 := Lib.hid H2
  clear hs H1 H2 hl
  go_enter Tryd.func25, Tryd.ntmps25
  go_wp2_with (fail)
  obtain ⟨W2, hW2⟩ : ∃ W2, W2 = (w.alloc (.cells #[.bool xn, .string xi, .string ⟨#[]⟩] 27)).alloc (.cells #[.string rO, .string rM, .bool rN, .bool false, .slice (some ⟨g, 0, none⟩) n cap] 40) := ⟨_, rfl⟩
  obtain ⟨hb2, hz2, CX⟩ : Below w.heap.size w W2 ∧ w.heap.size + 2 ≤ W2.heap.size ∧ Cells3 W2 w.heap.size (.bool xn) (.string xi) (.string ⟨#[]⟩) := by
    rw [hW2]
    exact ⟨below_two w _ _, by simp, (one_box w (.bool xn) (.string xi) (.string ⟨#[]⟩) 27).2.1.keep ((Below.refl _ _).alloc (Nat.le_refl _) _) (by simp)⟩
  rw [← hW2]
  have HB2 := Lib.hid hb2
  have HX2 := Lib.hid CX
  clear hW2 hb2 CX
  go_loopw [18] (fun i wr => ∃ k : Nat, i = .int .i64 k ∧ k ≤ n ∧ (∀ j, j < k → ¬ (p j = true ∧ q j = true)) ∧ Below W2.heap.size W2 wr) (fun i _ => n - (intOf i).toNat)
  case atStart => exact ⟨0, rfl, by omega, fun j hj => by omega, Below.refl _ _⟩
  case round =>
    obtain ⟨k, rfl, hk, hD, hbw⟩ := hrel
    have HDJ := Lib.hid hD
    have HW := Lib.hid hbw
    have hz := hbw.size
    clear hD hbw
    by_cases hlt : k < n
    · obtain ⟨c0, c1⟩ := ((HS.out.keep HB2.out hg).keep HW.out (by omega)) k (by rw [HL.out]; exact hlt)
      have D1 := Lib.hid (HA1.out k hlt)
      have D2 := Lib.hid (HA2.out k hlt)
      obtain ⟨x0, x1, x2⟩ := HX2.out.keep HW.out (by omega)
      generalize hx : l.getD k dp = x at *
      clear hx
      obtain ⟨lo, hi⟩ := x
      simp only at c0 c1
      have DW1 := Lib.hid (fun wx => whole_any lo wx)
      have DW2 := Lib.hid (fun wx => whole_any hi wx)
      obtain ⟨V, hV⟩ : ∃ V, V = wr.alloc (.cells #[.string lo, .string hi] 76) := ⟨_, rfl⟩
      obtain ⟨s0, s1⟩ := two_box wr (.string lo) (.string hi) 76
      have hbV0 : Below wr.heap.size wr V := by rw [hV]; exact (Below.refl _ _).alloc (Nat.le_refl _) _
      rw [← hV] at s0 s1
      have hbV : Below W2.heap.size W2 V := by rw [hV]; exact HW.out.alloc HW.out.size _
      have hzV : wr.heap.size + 1 ≤ V.heap.size := by rw [hV]; simp
      have HBV := Lib.hid hbV
      have S0 := Lib.hid s0
      have S1 := Lib.hid s1
      have XV := Lib.hid ((HX2.out.keep HW.out (by omega)).keep hbV0 (by omega))
      have HV := Lib.hid hV
      clear hV hbV hbV0 s0 s1
      cases hp : p k with
      | false =>
        rw [hp] at D1
        have PK := Lib.hid hp
        clear hp D2
        go_wp2_with fail
        rw [← HV.out]
        clear x0 x1 x2
        obtain ⟨x0, x1, x2⟩ := XV.out
        have s0 := S0.out
        have s1 := S1.out
        first
          | (go_region_with (first | (go_at_call 44; (with_reducible refine (DW1.out _).mono ?_); rintro e wA ⟨rfl, hbA⟩; have hA : Below V.heap.size V wA := undrew hbA; obtain ⟨xa0, xa1, xa2⟩ := XV.out.keep hA (by omega)) | (go_at_call 45; (with_reducible refine (D1.out _).mono ?_); rintro e wB ⟨rfl, hbB⟩; have hB : Below V.heap.size V wB := hA.trans (hbB.mono hA.size))))
          | fail "region"
        all_goals
          have hend := Lib.hid (HBV.out.trans (hB.mono HBV.out.size))
          go_wp2
          go_roundw
          case rel => exact ⟨k + 1, by go_num, by omega, fun j hj => by
            by_cases e : j = k
            · subst e; rw [PK.out]; rintro ⟨h, -⟩; cases h
            · exact HDJ.out j (by omega), hend.out⟩
          case measure => simp [intOf]; omega
      | true =>
        rw [hp] at D1
        have PK := Lib.hid hp
        clear hp
        cases hq : q k with
        | false =>
          rw [hq] at D2
          have QK := Lib.hid hq
          clear hq
          go_wp2_with fail
          rw [← HV.out]
          clear x0 x1 x2
          obtain ⟨x0, x1, x2⟩ := XV.out
          have s0 := S0.out
          have s1 := S1.out
          (go_region_held3 (fun w' => w'.cell? ⟨wr.heap.size, 0, none⟩ = some (.string lo) ∧ w'.cell? ⟨wr.heap.size, 1, none⟩ = some (.string hi) ∧ w'.cell? ⟨w.heap.size, 0, none⟩ = some (.bool xn) ∧ w'.cell? ⟨w.heap.size, 1, none⟩ = some (.string xi) ∧ w'.cell? ⟨w.heap.size, 2, none⟩ = some (.string ⟨#[]⟩)) (first | (with_reducible exact ⟨s0, s1, x0, x1, x2⟩) | (with_reducible exact ⟨(drew_cell _ _).trans s0, (drew_cell _ _).trans s1, (drew_cell _ _).trans x0, (drew_cell _ _).trans x1, (drew_cell _ _).trans x2⟩) | (have t0 := (hA.cell (p := ⟨wr.heap.size, 0, none⟩) (by show wr.heap.size < _; omega)).trans S0.out; have t1 := (hA.cell (p := ⟨wr.heap.size, 1, none⟩) (by show wr.heap.size < _; omega)).trans S1.out; have t := XV.out.keep hA (by omega); obtain ⟨u0, u1, u2⟩ := t; with_reducible exact ⟨t0, t1, u0, u1, u2⟩) | (have t0 := (hB.cell (p := ⟨wr.heap.size, 0, none⟩) (by show wr.heap.size < _; omega)).trans S0.out; have t1 := (hB.cell (p := ⟨wr.heap.size, 1, none⟩) (by show wr.heap.size < _; omega)).trans S1.out; have t := XV.out.keep hB (by omega); obtain ⟨u0, u1, u2⟩ := t; with_reducible exact ⟨t0, t1, u0, u1, u2⟩) | (have t0 := (hC.cell (p := ⟨wr.heap.size, 0, none⟩) (by show wr.heap.size < _; omega)).trans S0.out; have t1 := (hC.cell (p := ⟨wr.heap.size, 1, none⟩) (by show wr.heap.size < _; omega)).trans S1.out; have t := XV.out.keep hC (by omega); obtain ⟨u0, u1, u2⟩ := t; with_reducible exact ⟨t0, t1, u0, u1, u2⟩) | (have t0 := (hD.cell (p := ⟨wr.heap.size, 0, none⟩) (by show wr.heap.size < _; omega)).trans S0.out; have t1 := (hD.cell (p := ⟨wr.heap.size, 1, none⟩) (by show wr.heap.size < _; omega)).trans S1.out; have t := XV.out.keep hD (by omega); obtain ⟨u0, u1, u2⟩ := t; with_reducible exact ⟨t0, t1, u0, u1, u2⟩)) (first | (go_at_call 44; (with_reducible refine (DW1.out _).mono ?_); rintro e wA ⟨rfl, hbA⟩; have hA : Below V.heap.size V wA := undrew hbA) | (go_at_call 45; (with_reducible refine (D1.out _).mono ?_); rintro e wB ⟨rfl, hbB⟩; have hB : Below V.heap.size V wB := hA.trans (hbB.mono hA.size)) | (go_at_call 44; (with_reducible refine (DW2.out _).mono ?_); rintro e wC ⟨rfl, hbC⟩; have hC : Below V.heap.size V wC := hB.trans (hbC.mono hB.size)) | (go_at_call 45; (with_reducible refine (D2.out _).mono ?_); rintro e wD ⟨rfl, hbD⟩; have hD : Below V.heap.size V wD := hC.trans (hbD.mono hC.size))))
          all_goals
            have hend := Lib.hid (HBV.out.trans (hD.mono HBV.out.size))
            go_wp2
            go_roundw
            case rel => exact ⟨k + 1, by go_num, by omega, fun j hj => by
              by_cases e : j = k
              · subst e; rw [QK.out]; rintro ⟨-, h⟩; cases h
              · exact HDJ.out j (by omega), hend.out⟩
            case measure => simp [intOf]; omega
        | true =>
          rw [hq] at D2
          have QK := Lib.hid hq
          clear hq
          go_wp2_with fail
          rw [← HV.out]
          clear x0 x1 x2
          obtain ⟨x0, x1, x2⟩ := XV.out
          have s0 := S0.out
          have s1 := S1.out
          (go_region_held3 (fun w' => w'.cell? ⟨wr.heap.size, 0, none⟩ = some (.string lo) ∧ w'.cell? ⟨wr.heap.size, 1, none⟩ = some (.string hi) ∧ w'.cell? ⟨w.heap.size, 0, none⟩ = some (.bool xn) ∧ w'.cell? ⟨w.heap.size, 1, none⟩ = some (.string xi) ∧ w'.cell? ⟨w.heap.size, 2, none⟩ = some (.string ⟨#[]⟩)) (first | (with_reducible exact ⟨s0, s1, x0, x1, x2⟩) | (with_reducible exact ⟨(drew_cell _ _).trans s0, (drew_cell _ _).trans s1, (drew_cell _ _).trans x0, (drew_cell _ _).trans x1, (drew_cell _ _).trans x2⟩) | (have t0 := (hA.cell (p := ⟨wr.heap.size, 0, none⟩) (by show wr.heap.size < _; omega)).trans S0.out; have t1 := (hA.cell (p := ⟨wr.heap.size, 1, none⟩) (by show wr.heap.size < _; omega)).trans S1.out; have t := XV.out.keep hA (by omega); obtain ⟨u0, u1, u2⟩ := t; with_reducible exact ⟨t0, t1, u0, u1, u2⟩) | (have t0 := (hB.cell (p := ⟨wr.heap.size, 0, none⟩) (by show wr.heap.size < _; omega)).trans S0.out; have t1 := (hB.cell (p := ⟨wr.heap.size, 1, none⟩) (by show wr.heap.size < _; omega)).trans S1.out; have t := XV.out.keep hB (by omega); obtain ⟨u0, u1, u2⟩ := t; with_reducible exact ⟨t0, t1, u0, u1, u2⟩) | (have t0 := (hC.cell (p := ⟨wr.heap.size, 0, none⟩) (by show wr.heap.size < _; omega)).trans S0.out; have t1 := (hC.cell (p := ⟨wr.heap.size, 1, none⟩) (by show wr.heap.size < _; omega)).trans S1.out; have t := XV.out.keep hC (by omega); obtain ⟨u0, u1, u2⟩ := t; with_reducible exact ⟨t0, t1, u0, u1, u2⟩) | (have t0 := (hD.cell (p := ⟨wr.heap.size, 0, none⟩) (by show wr.heap.size < _; omega)).trans S0.out; have t1 := (hD.cell (p := ⟨wr.heap.size, 1, none⟩) (by show wr.heap.size < _; omega)).trans S1.out; have t := XV.out.keep hD (by omega); obtain ⟨u0, u1, u2⟩ := t; with_reducible exact ⟨t0, t1, u0, u1, u2⟩)) (first | (go_at_call 44; (with_reducible refine (DW1.out _).mono ?_); rintro e wA ⟨rfl, hbA⟩; have hA : Below V.heap.size V wA := undrew hbA) | (go_at_call 45; (with_reducible refine (D1.out _).mono ?_); rintro e wB ⟨rfl, hbB⟩; have hB : Below V.heap.size V wB := hA.trans (hbB.mono hA.size)) | (go_at_call 44; (with_reducible refine (DW2.out _).mono ?_); rintro e wC ⟨rfl, hbC⟩; have hC : Below V.heap.size V wC := hB.trans (hbC.mono hB.size)) | (go_at_call 45; (with_reducible refine (D2.out _).mono ?_); rintro e wD ⟨rfl, hbD⟩; have hD : Below V.heap.size V wD := hC.trans (hbD.mono hC.size))))
          all_goals
            have hend := Lib.hid (HB2.out.trans ((HBV.out.trans (hD.mono HBV.out.size)).mono HB2.out.size))
            go_wp2
            go_ret
            exact ⟨ret_bool (decide_eq_true ⟨k, hlt, PK.out, QK.out⟩).symm, hend.out⟩
    · go_wp2
      go_ret
      refine ⟨ret_bool (decide_eq_false ?_).symm, HB2.out.trans (HW.out.mono HB2.out.size)⟩
      rintro ⟨j, hj, h1, h2⟩
      exact HDJ.out j (by omega) ⟨h1, h2⟩

end Go.Proofs.YtmggdnnffdaffaaDoor
