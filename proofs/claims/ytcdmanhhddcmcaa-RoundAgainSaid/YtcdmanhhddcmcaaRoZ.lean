/- withZeros of the program. -/
import Derived.Test.YtcdmanhhddcmcaaRoPair
namespace Go.Proofs.Ytcdmanhhddcmcaa
open Go.RowKit
attribute [local go_sem ↓] Go.wp_at_zero Go.wp_at_succ

/-- How many places of a fraction stay, of which so many must. -/
def cutTo (f : List Nat) (p : Nat) : Nat → Nat
  | 0 => 0
  | k + 1 => if p < k + 1 ∧ f.getD k 0 = 0 then cutTo f p k else k + 1
theorem cutTo_le (f : List Nat) (p : Nat) : ∀ k, cutTo f p k ≤ k
  | 0 => Nat.le_refl _
  | k + 1 => by
    show (if p < k + 1 ∧ f.getD k 0 = 0 then cutTo f p k else k + 1) ≤ k + 1
    have := cutTo_le f p k
    split <;> omega
theorem cut_all (d : Dc) (p : Nat) : ∀ k, k ≤ d.f.length → (⟨d.neg, d.i, d.f.take k⟩ : Dc).Ok → (⟨d.neg, d.i, d.f.take (cutTo d.f p k)⟩ : Dc).Ok
  | 0, _, ho => ho
  | k + 1, hk, ho => by
    by_cases h0 : p < k + 1 ∧ d.f.getD k 0 = 0
    · have e : cutTo d.f p (k + 1) = cutTo d.f p k := if_pos h0
      rw [e]
      have ht := take_at d.f k (by omega)
      rw [h0.2] at ht
      exact cut_all d p k (by omega) (trim_step (d := ⟨d.neg, d.i, d.f.take (k + 1)⟩) (e := ⟨d.neg, d.i, d.f.take k⟩) ho ht rfl rfl).1
    · have e : cutTo d.f p (k + 1) = k + 1 := if_neg h0
      rw [e]
      exact ho
def cutZ (d : Dc) (p : Nat) : Dc := ⟨d.neg, d.i, d.f.take (cutTo d.f p d.f.length)⟩
theorem cut_ok {d : Dc} (h : d.Ok) (p : Nat) : (cutZ d p).Ok := by
  have e : (⟨d.neg, d.i, d.f.take d.f.length⟩ : Dc) = d := by rw [List.take_length]
  exact cut_all d p d.f.length (Nat.le_refl _) (by rw [e]; exact h)

set_option maxHeartbeats 1000000 in
set_option maxRecDepth 100000 in
theorem wz_pos (d : Dc) (p : Nat) (w : World) (o : Option Dc) (ho : padD (cutZ d p) p = o) (hd : d.Ok) (hp : p ≤ 40) :
    Calls Try.prog 59 #[(.agg #[.bool d.neg, .string (dStr d.i), .string (dStr d.f)]), .int .i64 (p : Int)] w fun e w' => e = .returned (.tuple #[.agg #[.bool (oN o), .string (oI o), .string (oF o)], .int .i64 (oE o)]) ∧ Below w.heap.size w w' := by
  have hm := hd.most
  have sf : (dStr d.f).size = d.f.length := dStr_size d.f
  have hcl := cutTo_le d.f p d.f.length
  have DS : Hid (∀ (wx : World) {X : ByteArray}, X = dStr (d.f.take (cutTo d.f p d.f.length)) → Calls Try.prog 21 #[.agg #[.bool d.neg, .string (dStr d.i), .string X], .int .i64 p] wx fun e w' => e = .returned (.tuple #[.agg #[.bool (oN o), .string (oI o), .string (oF o)], .int .i64 (oE o)]) ∧ Below wx.heap.size wx w') := by
    intro wx X hX
    rw [hX]
    exact pad_ok (cutZ d p) p wx o ho (cut_ok hd p) (by omega)
  have HDF := Lib.hid hd.df
  clear hd ho
  have q1 : decide ((40 : Int) < (p : Int)) = false := decide_eq_false (by omega)
  have q2 : ¬ (p : Int) < 0 := by omega
  have q3 : decide ((p : Int) < 0) = false := decide_eq_false q2
  go_enter Try.func59, Try.ntmps59
  go_wp2
  obtain ⟨W2, hW2⟩ : ∃ W2, W2 = (w.alloc (.cells #[.bool d.neg, .string (dStr d.i), .string (dStr d.f)] 23)).alloc (.cells #[.bool false, .string ⟨#[]⟩, .string ⟨#[]⟩] 23) := ⟨_, rfl⟩
  obtain ⟨hb2, hz2, CA, CR, FR⟩ : Below w.heap.size w W2 ∧ w.heap.size + 2 ≤ W2.heap.size ∧ Cells3 W2 w.heap.size (.bool d.neg) (.string (dStr d.i)) (.string (dStr d.f)) ∧ Cells3 W2 (w.heap.size + 1) (.bool false) (.string ⟨#[]⟩) (.string ⟨#[]⟩) ∧ ∀ i, W2.frozen? ⟨w.heap.size + 1, i, none⟩ = false := by rw [hW2]; exact ⟨below_two w _ _, two_boxes w _ _ _ _ _ _ _⟩
  have FA : ∀ i, W2.frozen? ⟨w.heap.size, i, none⟩ = false := by
    rw [hW2]
    exact frozen_keep (one_box w (.bool d.neg) (.string (dStr d.i)) (.string (dStr d.f)) 23).2.2 ((Below.refl _ _).alloc (Nat.le_refl _) _) (by simp)
  rw [← hW2]
  clear hW2
  obtain ⟨a0, a1, a2⟩ := CA
  have CR3 := Lib.hid CR
  have FR3 := Lib.hid FR
  have B3 := Lib.hid hb2
  clear hb2 CR FR
  go_loop [6] (fun v => ∃ k : Nat, v = .int .i64 k ∧ k ≤ d.f.length ∧ cutTo d.f p k = cutTo d.f p d.f.length) (fun v => (intOf v).toNat)
  case atStart => exact ⟨d.f.length, by first | rfl | (rw [dStr_size]) | simp [sf], Nat.le_refl _, rfl⟩
  case round =>
    obtain ⟨k, rfl, hk, hE⟩ := hrel
    have HE := Lib.hid hE
    clear hE
    by_cases hgo : p < k ∧ d.f.getD (k - 1) 0 = 0
    · obtain ⟨m, rfl⟩ : ∃ m, k = m + 1 := ⟨k - 1, by omega⟩
      obtain ⟨g1, h0⟩ := hgo
      rw [Nat.add_sub_cancel] at h0
      have hms : m < (dStr d.f).size := by rw [dStr_size]; omega
      have hget := dStr_get d.f HDF.out m hms
      rw [h0] at hget
      have q48 : (((dStr d.f)[m]'hms).toNat : Int) == 48 := by rw [hget]; rfl
      have i0 : (0 : Int) ≤ (m : Int) := by omega
      have i1 : (m : Int) < (d.f.length : Int) := by omega
      have g2 : (p : Int) < (m : Int) + 1 := by omega
      have g3 : p ≤ m := by omega
      have ST := Lib.hid (show cutTo d.f p (m + 1) = cutTo d.f p m from if_pos ⟨g1, h0⟩)
      clear h0 hget
      go_wp2
      go_round
      case rel => exact ⟨m, by first | rfl | go_num, by omega, by rw [← HE.out, ST.out]⟩
      case measure => simp [intOf]
    · have KE : Hid (k = cutTo d.f p d.f.length) := by
        show _ = _
        rw [← HE.out]
        cases k with
        | zero => rfl
        | succ m => exact (if_neg (fun h => hgo ⟨h.1, by rw [Nat.add_sub_cancel]; exact h.2⟩)).symm
      have SX : Hid ((dStr d.f).extract 0 k = dStr (d.f.take (cutTo d.f p d.f.length))) := by show _ = _; rw [dStr_ext, List.drop_zero, ← KE.out]
      have i1 : (k : Int) ≤ (d.f.length : Int) := by omega
      obtain ⟨W4, hW4⟩ : ∃ W4, W4 = W2.setCell ⟨w.heap.size, 2, none⟩ (.string ((dStr d.f).extract 0 k)) := ⟨_, rfl⟩
      have C4 : Cells3 W4 (w.heap.size + 1) (.bool false) (.string ⟨#[]⟩) (.string ⟨#[]⟩) := by
        rw [hW4]
        exact ⟨(World.cell?_setCell_other _ _ _ _ (fun e => by have := congrArg Addr.block e; simp at this)).trans CR3.out.1, (World.cell?_setCell_other _ _ _ _ (fun e => by have := congrArg Addr.block e; simp at this)).trans CR3.out.2.1, (World.cell?_setCell_other _ _ _ _ (fun e => by have := congrArg Addr.block e; simp at this)).trans CR3.out.2.2⟩
      have F4 : ∀ i, W4.frozen? ⟨w.heap.size + 1, i, none⟩ = false := by
        rw [hW4]
        intro i
        simpa using FR3.out i
      have B4 : Below w.heap.size w W4 := by rw [hW4]; exact B3.out.setCell (p := ⟨w.heap.size, 2, none⟩) (Nat.le_refl _) _
      have hz4 : w.heap.size + 2 ≤ W4.heap.size := by rw [hW4]; simpa [World.setCell] using hz2
      have C4' := Lib.hid C4
      have F4' := Lib.hid F4
      have B4' := Lib.hid B4
      have HW4 := Lib.hid hW4
      clear C4 F4 B4 hW4
      by_cases hk0 : k ≤ p
      · have g1 : ¬ p < k := by omega
        have g2 : ¬ (p : Int) < (k : Int) := by omega
        clear hgo
        go_wp2_with fail
        rw [← HW4.out]
        (with_reducible refine (DS.out _ ?_).mono ?_)
        · exact SX.out
        rintro e W5 ⟨rfl, hb5⟩
        obtain ⟨r0, r1, r2⟩ := C4'.out.keep hb5 (by omega)
        have z0 := frozen_keep F4'.out hb5 (by omega)
        obtain ⟨e0, e1, e2⟩ := res_cells r0 r1 r2 (.bool (oN o)) (.string (oI o)) (.string (oF o))
        go_wp2
        exact bodyPost_ret (v := .tuple #[.agg #[.bool (oN o), .string (oI o), .string (oF o)], .int .i64 (oE o)]) (by simp [results, Try.results59, go_sem, e0, e1, e2]) rfl ⟨rfl, res_below (B4'.out.trans (hb5.mono B4'.out.size)) (by omega) _ _ _⟩
      · obtain ⟨m, rfl⟩ : ∃ m, k = m + 1 := ⟨k - 1, by omega⟩
        have hms : m < (dStr d.f).size := by rw [dStr_size]; omega
        have hget := dStr_get d.f HDF.out m hms
        have g1 : p < m + 1 := by omega
        have hne : d.f.getD m 0 ≠ 0 := fun h => hgo ⟨g1, by rw [Nat.add_sub_cancel]; exact h⟩
        have q48 : ((((dStr d.f)[m]'hms).toNat : Int) == 48) = false := by
          rw [hget, beq_eq_false_iff_ne]
          intro e
          exact hne (by omega)
        have i0 : (0 : Int) ≤ (m : Int) := by omega
        have i2 : (m : Int) < (d.f.length : Int) := by omega
        have g2 : (p : Int) < (m : Int) + 1 := by omega
        have g3 : p ≤ m := by omega
        clear hget hne hgo
        go_wp2_with fail
        rw [← HW4.out]
        (with_reducible refine (DS.out _ ?_).mono ?_)
        · exact SX.out
        rintro e W5 ⟨rfl, hb5⟩
        obtain ⟨r0, r1, r2⟩ := C4'.out.keep hb5 (by omega)
        have z0 := frozen_keep F4'.out hb5 (by omega)
        obtain ⟨e0, e1, e2⟩ := res_cells r0 r1 r2 (.bool (oN o)) (.string (oI o)) (.string (oF o))
        go_wp2
        exact bodyPost_ret (v := .tuple #[.agg #[.bool (oN o), .string (oI o), .string (oF o)], .int .i64 (oE o)]) (by simp [results, Try.results59, go_sem, e0, e1, e2]) rfl ⟨rfl, res_below (B4'.out.trans (hb5.mono B4'.out.size)) (by omega) _ _ _⟩

set_option maxHeartbeats 1000000 in
set_option maxRecDepth 100000 in
theorem wz_neg (d : Dc) (pl : Int) (w : World) (o : Option Dc) (ho : padD (cutZ d 0) 0 = o) (hd : d.Ok) (hp : pl < 0) :
    Calls Try.prog 59 #[(.agg #[.bool d.neg, .string (dStr d.i), .string (dStr d.f)]), .int .i64 pl] w fun e w' => e = .returned (.tuple #[.agg #[.bool (oN o), .string (oI o), .string (oF o)], .int .i64 (oE o)]) ∧ Below w.heap.size w w' := by
  have hm := hd.most
  have sf : (dStr d.f).size = d.f.length := dStr_size d.f
  have hcl := cutTo_le d.f 0 d.f.length
  have DS : Hid (∀ (wx : World) {X : ByteArray}, X = dStr (d.f.take (cutTo d.f 0 d.f.length)) → Calls Try.prog 21 #[.agg #[.bool d.neg, .string (dStr d.i), .string X], .int .i64 0] wx fun e w' => e = .returned (.tuple #[.agg #[.bool (oN o), .string (oI o), .string (oF o)], .int .i64 (oE o)]) ∧ Below wx.heap.size wx w') := by
    intro wx X hX
    rw [hX]
    exact pad_ok (cutZ d 0) 0 wx o ho (cut_ok hd 0) (by omega)
  have HDF := Lib.hid hd.df
  clear hd ho
  have q1 : decide ((40 : Int) < pl) = false := decide_eq_false (by omega)
  have q3 : decide (pl < 0) = true := decide_eq_true hp
  go_enter Try.func59, Try.ntmps59
  go_wp2
  obtain ⟨W2, hW2⟩ : ∃ W2, W2 = (w.alloc (.cells #[.bool d.neg, .string (dStr d.i), .string (dStr d.f)] 23)).alloc (.cells #[.bool false, .string ⟨#[]⟩, .string ⟨#[]⟩] 23) := ⟨_, rfl⟩
  obtain ⟨hb2, hz2, CA, CR, FR⟩ : Below w.heap.size w W2 ∧ w.heap.size + 2 ≤ W2.heap.size ∧ Cells3 W2 w.heap.size (.bool d.neg) (.string (dStr d.i)) (.string (dStr d.f)) ∧ Cells3 W2 (w.heap.size + 1) (.bool false) (.string ⟨#[]⟩) (.string ⟨#[]⟩) ∧ ∀ i, W2.frozen? ⟨w.heap.size + 1, i, none⟩ = false := by rw [hW2]; exact ⟨below_two w _ _, two_boxes w _ _ _ _ _ _ _⟩
  have FA : ∀ i, W2.frozen? ⟨w.heap.size, i, none⟩ = false := by
    rw [hW2]
    exact frozen_keep (one_box w (.bool d.neg) (.string (dStr d.i)) (.string (dStr d.f)) 23).2.2 ((Below.refl _ _).alloc (Nat.le_refl _) _) (by simp)
  rw [← hW2]
  clear hW2
  obtain ⟨a0, a1, a2⟩ := CA
  have CR3 := Lib.hid CR
  have FR3 := Lib.hid FR
  have B3 := Lib.hid hb2
  clear hb2 CR FR
  go_loop [6] (fun v => ∃ k : Nat, v = .int .i64 k ∧ k ≤ d.f.length ∧ cutTo d.f 0 k = cutTo d.f 0 d.f.length) (fun v => (intOf v).toNat)
  case atStart => exact ⟨d.f.length, by first | rfl | (rw [dStr_size]) | simp [sf], Nat.le_refl _, rfl⟩
  case round =>
    obtain ⟨k, rfl, hk, hE⟩ := hrel
    have HE := Lib.hid hE
    clear hE
    by_cases hgo : 0 < k ∧ d.f.getD (k - 1) 0 = 0
    · obtain ⟨m, rfl⟩ : ∃ m, k = m + 1 := ⟨k - 1, by omega⟩
      obtain ⟨g1, h0⟩ := hgo
      rw [Nat.add_sub_cancel] at h0
      have hms : m < (dStr d.f).size := by rw [dStr_size]; omega
      have hget := dStr_get d.f HDF.out m hms
      rw [h0] at hget
      have q48 : (((dStr d.f)[m]'hms).toNat : Int) == 48 := by rw [hget]; rfl
      have i0 : (0 : Int) ≤ (m : Int) := by omega
      have i1 : (m : Int) < (d.f.length : Int) := by omega
      have g2 : (0 : Int) < (m : Int) + 1 := by omega
      have g3 : 0 ≤ m := by omega
      have ST := Lib.hid (show cutTo d.f 0 (m + 1) = cutTo d.f 0 m from if_pos ⟨g1, h0⟩)
      clear h0 hget
      go_wp2
      go_round
      case rel => exact ⟨m, by first | rfl | go_num, by omega, by rw [← HE.out, ST.out]⟩
      case measure => simp [intOf]
    · have KE : Hid (k = cutTo d.f 0 d.f.length) := by
        show _ = _
        rw [← HE.out]
        cases k with
        | zero => rfl
        | succ m => exact (if_neg (fun h => hgo ⟨h.1, by rw [Nat.add_sub_cancel]; exact h.2⟩)).symm
      have SX : Hid ((dStr d.f).extract 0 k = dStr (d.f.take (cutTo d.f 0 d.f.length))) := by show _ = _; rw [dStr_ext, List.drop_zero, ← KE.out]
      have i1 : (k : Int) ≤ (d.f.length : Int) := by omega
      obtain ⟨W4, hW4⟩ : ∃ W4, W4 = W2.setCell ⟨w.heap.size, 2, none⟩ (.string ((dStr d.f).extract 0 k)) := ⟨_, rfl⟩
      have C4 : Cells3 W4 (w.heap.size + 1) (.bool false) (.string ⟨#[]⟩) (.string ⟨#[]⟩) := by
        rw [hW4]
        exact ⟨(World.cell?_setCell_other _ _ _ _ (fun e => by have := congrArg Addr.block e; simp at this)).trans CR3.out.1, (World.cell?_setCell_other _ _ _ _ (fun e => by have := congrArg Addr.block e; simp at this)).trans CR3.out.2.1, (World.cell?_setCell_other _ _ _ _ (fun e => by have := congrArg Addr.block e; simp at this)).trans CR3.out.2.2⟩
      have F4 : ∀ i, W4.frozen? ⟨w.heap.size + 1, i, none⟩ = false := by
        rw [hW4]
        intro i
        simpa using FR3.out i
      have B4 : Below w.heap.size w W4 := by rw [hW4]; exact B3.out.setCell (p := ⟨w.heap.size, 2, none⟩) (Nat.le_refl _) _
      have hz4 : w.heap.size + 2 ≤ W4.heap.size := by rw [hW4]; simpa [World.setCell] using hz2
      have C4' := Lib.hid C4
      have F4' := Lib.hid F4
      have B4' := Lib.hid B4
      have HW4 := Lib.hid hW4
      clear C4 F4 B4 hW4
      by_cases hk0 : k = 0
      · subst hk0
        have EX : (dStr d.f).extract 0 0 = ByteArray.empty := by simp
        have HW5 := HW4.out
        have SX5 := SX.out
        rw [EX] at HW5 SX5
        have HW4 := Lib.hid HW5
        have SX := Lib.hid SX5
        clear HW5 SX5 EX hgo
        go_wp2_with fail
        rw [← HW4.out]
        (with_reducible refine (DS.out _ ?_).mono ?_)
        · exact SX.out
        rintro e W5 ⟨rfl, hb5⟩
        obtain ⟨r0, r1, r2⟩ := C4'.out.keep hb5 (by omega)
        have z0 := frozen_keep F4'.out hb5 (by omega)
        obtain ⟨e0, e1, e2⟩ := res_cells r0 r1 r2 (.bool (oN o)) (.string (oI o)) (.string (oF o))
        go_wp2
        exact bodyPost_ret (v := .tuple #[.agg #[.bool (oN o), .string (oI o), .string (oF o)], .int .i64 (oE o)]) (by simp [results, Try.results59, go_sem, e0, e1, e2]) rfl ⟨rfl, res_below (B4'.out.trans (hb5.mono B4'.out.size)) (by omega) _ _ _⟩
      · obtain ⟨m, rfl⟩ : ∃ m, k = m + 1 := ⟨k - 1, by omega⟩
        have hms : m < (dStr d.f).size := by rw [dStr_size]; omega
        have hget := dStr_get d.f HDF.out m hms
        have g1 : 0 < m + 1 := by omega
        have hne : d.f.getD m 0 ≠ 0 := fun h => hgo ⟨g1, by rw [Nat.add_sub_cancel]; exact h⟩
        have q48 : ((((dStr d.f)[m]'hms).toNat : Int) == 48) = false := by
          rw [hget, beq_eq_false_iff_ne]
          intro e
          exact hne (by omega)
        have i0 : (0 : Int) ≤ (m : Int) := by omega
        have i2 : (m : Int) < (d.f.length : Int) := by omega
        have g2 : (0 : Int) < (m : Int) + 1 := by omega
        have g3 : 0 ≤ m := by omega
        clear hget hne hgo
        go_wp2_with fail
        rw [← HW4.out]
        (with_reducible refine (DS.out _ ?_).mono ?_)
        · exact SX.out
        rintro e W5 ⟨rfl, hb5⟩
        obtain ⟨r0, r1, r2⟩ := C4'.out.keep hb5 (by omega)
        have z0 := frozen_keep F4'.out hb5 (by omega)
        obtain ⟨e0, e1, e2⟩ := res_cells r0 r1 r2 (.bool (oN o)) (.string (oI o)) (.string (oF o))
        go_wp2
        exact bodyPost_ret (v := .tuple #[.agg #[.bool (oN o), .string (oI o), .string (oF o)], .int .i64 (oE o)]) (by simp [results, Try.results59, go_sem, e0, e1, e2]) rfl ⟨rfl, res_below (B4'.out.trans (hb5.mono B4'.out.size)) (by omega) _ _ _⟩

set_option maxHeartbeats 1000000 in
set_option maxRecDepth 100000 in
theorem wz_hi (n : Bool) (i f : ByteArray) (pl : Int) (w : World) (hp : 40 < pl) :
    Calls Try.prog 59 #[.agg #[.bool n, .string i, .string f], .int .i64 pl] w fun e w' => e = .returned (zeroV 3) ∧ Below w.heap.size w w' := by
  have q1 : decide ((40 : Int) < pl) = true := decide_eq_true hp
  go_enter Try.func59, Try.ntmps59
  obtain ⟨W2, hW2⟩ : ∃ W2, W2 = (w.alloc (.cells #[.bool n, .string i, .string f] 23)).alloc (.cells #[.bool false, .string ⟨#[]⟩, .string ⟨#[]⟩] 23) := ⟨_, rfl⟩
  obtain ⟨hb2, hz2, CA, CR, FR⟩ : Below w.heap.size w W2 ∧ w.heap.size + 2 ≤ W2.heap.size ∧ Cells3 W2 w.heap.size (.bool n) (.string i) (.string f) ∧ Cells3 W2 (w.heap.size + 1) (.bool false) (.string ⟨#[]⟩) (.string ⟨#[]⟩) ∧ ∀ i, W2.frozen? ⟨w.heap.size + 1, i, none⟩ = false := by rw [hW2]; exact ⟨below_two w _ _, two_boxes w _ _ _ _ _ _ _⟩
  obtain ⟨r0, r1, r2⟩ := CR
  have z0 := FR
  obtain ⟨e0, e1, e2⟩ := res_cells r0 r1 r2 (.bool false) (.string ⟨#[]⟩) (.string ⟨#[]⟩)
  have hb3 := Lib.hid hb2
  have hW3 := Lib.hid hW2
  have CR3 := Lib.hid (show Cells3 W2 (w.heap.size + 1) (.bool false) (.string ⟨#[]⟩) (.string ⟨#[]⟩) from ⟨r0, r1, r2⟩)
  clear hb2 hW2 FR CA e0 e1 e2 z0 r0 r1 r2
  go_wp2
  rw [← hW3.out]
  obtain ⟨r0, r1, r2⟩ := CR3.out
  exact bodyPost_ret (v := zeroV 3) (by simp [zeroV, results, Try.results59, go_sem, r0, r1, r2]) rfl ⟨rfl, hb3.out⟩
end Go.Proofs.Ytcdmanhhddcmcaa
