/- Trim, Pad, Shift of the program. -/
import Derived.Test.YtmggdnnffdaffaaDoorDTop
import Derived.Deep.RegionHeld3
import Derived.IntWalk
namespace Go.Proofs.YtmggdnnffdaffaaDoor
open Go.RowKit
attribute [local go_sem ↓] Go.wp_at_zero Go.wp_at_succ

/-- How many places of a fraction stay. -/
def trimTo (f : List Nat) : Nat → Nat
  | 0 => 0
  | k + 1 => if f.getD k 0 = 0 then trimTo f k else k + 1
theorem trimTo_le (f : List Nat) : ∀ k, trimTo f k ≤ k
  | 0 => Nat.le_refl _
  | k + 1 => by
    show (if f.getD k 0 = 0 then trimTo f k else k + 1) ≤ k + 1
    have := trimTo_le f k
    split <;> omega
def trimD (d : Dc) : Dc := ⟨d.neg, d.i, d.f.take (trimTo d.f d.f.length)⟩
theorem cmp_zero_trans {a b c : Dc} (h1 : cmpD a b = 0) (h2 : cmpD b c = 0) : cmpD a c = 0 := by
  have e1 := (cmp_zero (a := a) (b := b) (max a.f.length (max b.f.length c.f.length)) (by omega) (by omega)).1 h1
  have e2 := (cmp_zero (a := b) (b := c) (max a.f.length (max b.f.length c.f.length)) (by omega) (by omega)).1 h2
  exact (cmp_zero (a := a) (b := c) (max a.f.length (max b.f.length c.f.length)) (by omega) (by omega)).2 (e1.trans e2)
theorem cmp_same (a : Dc) : cmpD a a = 0 := (cmp_zero (a := a) (b := a) a.f.length (Nat.le_refl _) (Nat.le_refl _)).2 rfl
theorem trim_all (d : Dc) : ∀ k, k ≤ d.f.length → (⟨d.neg, d.i, d.f.take k⟩ : Dc).Ok → cmpD ⟨d.neg, d.i, d.f.take k⟩ d = 0 →
    (⟨d.neg, d.i, d.f.take (trimTo d.f k)⟩ : Dc).Ok ∧ cmpD ⟨d.neg, d.i, d.f.take (trimTo d.f k)⟩ d = 0 ∧ Trimmed ⟨d.neg, d.i, d.f.take (trimTo d.f k)⟩
  | 0, _, ho, hc => ⟨ho, hc, .inl rfl⟩
  | k + 1, hk, ho, hc => by
    by_cases h0 : d.f.getD k 0 = 0
    · have e : trimTo d.f (k + 1) = trimTo d.f k := if_pos h0
      rw [e]
      have ht := take_at d.f k (by omega)
      rw [h0] at ht
      obtain ⟨s1, s2⟩ := trim_step (d := ⟨d.neg, d.i, d.f.take (k + 1)⟩) (e := ⟨d.neg, d.i, d.f.take k⟩) ho ht rfl rfl
      exact trim_all d k (by omega) s1 (cmp_zero_trans s2 hc)
    · have e : trimTo d.f (k + 1) = k + 1 := if_neg h0
      rw [e]
      refine ⟨ho, hc, .inr ⟨d.f.getD k 0, ?_, h0⟩⟩
      show (d.f.take (k + 1)).getLast? = _
      rw [take_at d.f k (by omega), List.getLast?_append]
      simp
theorem trim_facts {d : Dc} (h : d.Ok) : (trimD d).Ok ∧ cmpD (trimD d) d = 0 ∧ Trimmed (trimD d) := by
  have e : (⟨d.neg, d.i, d.f.take d.f.length⟩ : Dc) = d := by rw [List.take_length]
  exact trim_all d d.f.length (Nat.le_refl _) (by rw [e]; exact h) (by rw [e]; exact cmp_same d)
/-- With so many places at least. -/
def padD (d : Dc) (k : Nat) : Option Dc := mkN d.neg (d.raised (max d.f.length k)) (max d.f.length k)
theorem sh_ref (d : Dc) (k : Int) (sc : Nat) (h : (sc : Int) = max (d.f.length : Int) k) : mkN d.neg (d.raised sc) ((sc : Int) - k).toNat = shD d k := by
  unfold mkN shD Dc.raised Dc.z
  by_cases c : (d.f.length : Int) < k
  · rw [if_pos c]
    have e1 : ((sc : Int) - k).toNat = 0 := by omega
    have e2 : sc - d.f.length = (k - d.f.length).toNat := by omega
    rw [e1, e2]
    congr 1
    split
    · rw [Int.natCast_mul, Int.natCast_pow, Int.neg_mul]; rfl
    · rw [Int.natCast_mul, Int.natCast_pow]; rfl
  · rw [if_neg c]
    have e1 : sc = d.f.length := by omega
    rw [e1, Nat.sub_self, Nat.pow_zero, Nat.mul_one]

set_option maxHeartbeats 1000000 in
set_option maxRecDepth 100000 in
theorem trim_bad (n : Bool) (i f : ByteArray) (w : World) (h1 : i.size ≤ 140737488355328) (h2 : f.size ≤ 140737488355328) (h : okB n i f = false) :
    Calls Tryd.prog 36 #[.agg #[.bool n, .string i, .string f]] w fun e w' => e = .returned (.tuple #[.agg #[.bool false, .string ⟨#[]⟩, .string ⟨#[]⟩], .int .i64 20]) ∧ Below w.heap.size w w' := by
  have DC := Lib.hid (fun wx => check_any n i f wx h1 h2)
  have q := ck_bad h
  clear h
  go_enter Tryd.func36, Tryd.ntmps36
  go_wp2_with fail
  obtain ⟨W2, hW2⟩ : ∃ W2, W2 = (w.alloc (.cells #[.bool n, .string i, .string f] 27)).alloc (.cells #[.bool false, .string ⟨#[]⟩, .string ⟨#[]⟩] 27) := ⟨_, rfl⟩
  obtain ⟨hb2, hz2, CA, CR, FR⟩ : Below w.heap.size w W2 ∧ w.heap.size + 2 ≤ W2.heap.size ∧ Cells3 W2 w.heap.size (.bool n) (.string i) (.string f) ∧ Cells3 W2 (w.heap.size + 1) (.bool false) (.string ⟨#[]⟩) (.string ⟨#[]⟩) ∧ ∀ i, W2.frozen? ⟨w.heap.size + 1, i, none⟩ = false := by rw [hW2]; exact ⟨below_two w _ _, two_boxes w _ _ _ _ _ _ _⟩
  have FA : ∀ i, W2.frozen? ⟨w.heap.size, i, none⟩ = false := by
    rw [hW2]
    exact frozen_keep (one_box w (.bool n) (.string i) (.string f) 27).2.2 ((Below.refl _ _).alloc (Nat.le_refl _) _) (by simp)
  rw [← hW2]
  clear hW2
  (with_reducible refine (DC.out _).mono ?_)
  rintro e W3 ⟨rfl, hb3⟩
  obtain ⟨a0, a1, a2⟩ := CA.keep hb3 (by omega)
  have CR3 := Lib.hid (CR.keep hb3 (by omega))
  have FR3 := Lib.hid (frozen_keep FR hb3 (by omega))
  have FA3 := frozen_keep FA hb3 (by omega)
  have hz3 : w.heap.size + 2 ≤ W3.heap.size := by have := hb3.size; omega
  have B3 := Lib.hid (hb2.trans (hb3.mono hb2.size))
  clear hb3 hb2 CA CR FR FA hz2
  obtain ⟨r0, r1, r2⟩ := CR3.out
  have z0 := FR3.out
  obtain ⟨e0, e1, e2⟩ := res_cells r0 r1 r2 (.bool false) (.string ⟨#[]⟩) (.string ⟨#[]⟩)
  go_wp2
  exact bodyPost_ret (v := .tuple #[.agg #[.bool false, .string ⟨#[]⟩, .string ⟨#[]⟩], .int .i64 20]) (by simp [results, Tryd.results36, go_sem, e0, e1, e2]) rfl ⟨rfl, res_below B3.out (by omega) _ _ _⟩

set_option maxHeartbeats 2000000 in
set_option maxRecDepth 100000 in
theorem trim_ok (d : Dc) (w : World) (hd : d.Ok) :
    Calls Tryd.prog 36 #[(.agg #[.bool d.neg, .string (dStr d.i), .string (dStr d.f)])] w fun e w' => e = .returned (.tuple #[.agg #[.bool (trimD d).neg, .string (dStr (trimD d).i), .string (dStr (trimD d).f)], .int .i64 0]) ∧ Below w.heap.size w w' := by
  have DC := Lib.hid (fun wx => check_any d.neg (dStr d.i) (dStr d.f) wx (by rw [dStr_size]; have := hd.most; omega) (by rw [dStr_size]; have := hd.most; omega))
  have q := ck_ok hd
  have hm := hd.most
  have ho1 := hd.one
  have si : (dStr d.i).size = d.i.length := dStr_size d.i
  have sf : (dStr d.f).size = d.f.length := dStr_size d.f
  obtain ⟨t1, t2, t3⟩ := trim_facts hd
  have hk0 := trimTo_le d.f d.f.length
  have DS : Hid (∀ wx : World, Calls Tryd.prog 49 #[.agg #[.bool d.neg, .string (dStr d.i), .string (dStr (d.f.take (trimTo d.f d.f.length)))], .int .i64 (trimTo d.f d.f.length : Nat)] wx fun e w' => e = .returned (.tuple #[.agg #[.bool (trimD d).neg, .string (dStr (trimD d).i), .string (dStr (trimD d).f)], .int .i64 0]) ∧ Below wx.heap.size wx w') := by
    intro wx
    have hl : (trimD d).f.length = trimTo d.f d.f.length := by show (d.f.take _).length = _; rw [List.length_take]; omega
    have hmk : mkN (trimD d).neg ((trimD d).raised (trimTo d.f d.f.length)) (trimTo d.f d.f.length) = some (trimD d) := by
      have h1 := mk_ok t1
      rw [← hl]
      unfold mkN Dc.raised
      rw [Nat.sub_self, Nat.pow_zero, Nat.mul_one]
      exact h1
    have := atScale_any (trimD d) (trimTo d.f d.f.length) wx _ hmk t1.dg (by omega) (by show d.i.length + _ ≤ _; omega)
    exact this
  have HDF := Lib.hid hd.df
  clear hd t1 t2 t3
  go_enter Tryd.func36, Tryd.ntmps36
  go_wp2_with fail
  obtain ⟨W2, hW2⟩ : ∃ W2, W2 = (w.alloc (.cells #[.bool d.neg, .string (dStr d.i), .string (dStr d.f)] 27)).alloc (.cells #[.bool false, .string ⟨#[]⟩, .string ⟨#[]⟩] 27) := ⟨_, rfl⟩
  obtain ⟨hb2, hz2, CA, CR, FR⟩ : Below w.heap.size w W2 ∧ w.heap.size + 2 ≤ W2.heap.size ∧ Cells3 W2 w.heap.size (.bool d.neg) (.string (dStr d.i)) (.string (dStr d.f)) ∧ Cells3 W2 (w.heap.size + 1) (.bool false) (.string ⟨#[]⟩) (.string ⟨#[]⟩) ∧ ∀ i, W2.frozen? ⟨w.heap.size + 1, i, none⟩ = false := by rw [hW2]; exact ⟨below_two w _ _, two_boxes w _ _ _ _ _ _ _⟩
  have FA : ∀ i, W2.frozen? ⟨w.heap.size, i, none⟩ = false := by
    rw [hW2]
    exact frozen_keep (one_box w (.bool d.neg) (.string (dStr d.i)) (.string (dStr d.f)) 27).2.2 ((Below.refl _ _).alloc (Nat.le_refl _) _) (by simp)
  rw [← hW2]
  clear hW2
  (with_reducible refine (DC.out _).mono ?_)
  rintro e W3 ⟨rfl, hb3⟩
  obtain ⟨a0, a1, a2⟩ := CA.keep hb3 (by omega)
  have CR3 := Lib.hid (CR.keep hb3 (by omega))
  have FR3 := Lib.hid (frozen_keep FR hb3 (by omega))
  have FA3 := frozen_keep FA hb3 (by omega)
  have hz3 : w.heap.size + 2 ≤ W3.heap.size := by have := hb3.size; omega
  have B3 := Lib.hid (hb2.trans (hb3.mono hb2.size))
  clear hb3 hb2 CA CR FR FA hz2
  go_wp2
  go_loop [5] (fun v => ∃ k : Nat, v = .int .i64 k ∧ k ≤ d.f.length ∧ trimTo d.f k = trimTo d.f d.f.length) (fun v => (intOf v).toNat)
  case atStart => exact ⟨d.f.length, rfl, Nat.le_refl _, rfl⟩
  case round =>
    obtain ⟨k, rfl, hk, hE⟩ := hrel
    have HE := Lib.hid hE
    clear hE
    by_cases hgo : 0 < k ∧ d.f.getD (k - 1) 0 = 0
    · obtain ⟨m, rfl⟩ : ∃ m, k = m + 1 := ⟨k - 1, by omega⟩
      obtain ⟨_, h0⟩ := hgo
      rw [Nat.add_sub_cancel] at h0
      have hms : m < (dStr d.f).size := by rw [dStr_size]; omega
      have hget := dStr_get d.f HDF.out m hms
      rw [h0] at hget
      have q48 : (((dStr d.f)[m]'hms).toNat : Int) == 48 := by rw [hget]; rfl
      have i0 : (0 : Int) ≤ (m : Int) := by omega
      have i1 : (m : Int) < (d.f.length : Int) := by omega
      have ST := Lib.hid (show trimTo d.f (m + 1) = trimTo d.f m from if_pos h0)
      clear h0 hget
      go_wp2
      go_round
      case rel => exact ⟨m, by first | rfl | go_num, by omega, by rw [← HE.out, ST.out]⟩
      case measure => simp [intOf]
    · have KE : Hid (k = trimTo d.f d.f.length) := by
        show _ = _
        rw [← HE.out]
        cases k with
        | zero => rfl
        | succ m => exact (if_neg (fun h => hgo ⟨by omega, by rw [Nat.add_sub_cancel]; exact h⟩)).symm
      have SX : Hid ((dStr d.f).extract 0 k = dStr (d.f.take (trimTo d.f d.f.length))) := by show _ = _; rw [dStr_ext, List.drop_zero, ← KE.out]
      have DT : Hid (∀ wx : World, Calls Tryd.prog 49 #[.agg #[.bool d.neg, .string (dStr d.i), .string ((dStr d.f).extract 0 k)], .int .i64 (k : Int)] wx fun e w' => e = .returned (.tuple #[.agg #[.bool (trimD d).neg, .string (dStr (trimD d).i), .string (dStr (trimD d).f)], .int .i64 0]) ∧ Below wx.heap.size wx w') := by
        show ∀ wx : World, _
        rw [SX.out]
        have := DS.out
        rw [← KE.out] at this ⊢
        exact this
      have i1 : (k : Int) ≤ (d.f.length : Int) := by omega
      obtain ⟨W4, hW4⟩ : ∃ W4, W4 = W3.setCell ⟨w.heap.size, 2, none⟩ (.string ((dStr d.f).extract 0 k)) := ⟨_, rfl⟩
      have C4 : Cells3 W4 (w.heap.size + 1) (.bool false) (.string ⟨#[]⟩) (.string ⟨#[]⟩) := by
        rw [hW4]
        exact ⟨(World.cell?_setCell_other _ _ _ _ (fun e => by have := congrArg Addr.block e; simp at this)).trans CR3.out.1, (World.cell?_setCell_other _ _ _ _ (fun e => by have := congrArg Addr.block e; simp at this)).trans CR3.out.2.1, (World.cell?_setCell_other _ _ _ _ (fun e => by have := congrArg Addr.block e; simp at this)).trans CR3.out.2.2⟩
      have F4 : ∀ i, W4.frozen? ⟨w.heap.size + 1, i, none⟩ = false := by
        rw [hW4]
        intro i
        simpa using FR3.out i
      have B4 : Below w.heap.size w W4 := by rw [hW4]; exact B3.out.setCell (p := ⟨w.heap.size, 2, none⟩) (Nat.le_refl _) _
      have hz4 : w.heap.size + 2 ≤ W4.heap.size := by rw [hW4]; simpa [World.setCell] using hz3
      have C4' := Lib.hid C4
      have F4' := Lib.hid F4
      have B4' := Lib.hid B4
      have HW4 := Lib.hid hW4
      clear C4 F4 B4 hW4
      by_cases hk0 : k = 0
      · subst hk0
        have EX : (dStr d.f).extract 0 0 = ByteArray.empty := by simp
        have HW5 := HW4.out
        have DT0 := DT.out
        rw [EX] at HW5 DT0
        have HW4 := Lib.hid HW5
        have DT := Lib.hid (show ∀ wx : World, Calls Tryd.prog 49 #[.agg #[.bool d.neg, .string (dStr d.i), .string ByteArray.empty], .int .i64 0] wx fun e w' => e = .returned (.tuple #[.agg #[.bool (trimD d).neg, .string (dStr (trimD d).i), .string (dStr (trimD d).f)], .int .i64 0]) ∧ Below wx.heap.size wx w' from DT0)
        clear HW5 DT0 EX
        go_wp2_with fail
        rw [← HW4.out]
        (with_reducible refine (DT.out _).mono ?_)
        rintro e W5 ⟨rfl, hb5⟩
        obtain ⟨r0, r1, r2⟩ := C4'.out.keep hb5 (by omega)
        have z0 := frozen_keep F4'.out hb5 (by omega)
        obtain ⟨e0, e1, e2⟩ := res_cells r0 r1 r2 (.bool (trimD d).neg) (.string (dStr (trimD d).i)) (.string (dStr (trimD d).f))
        go_wp2
        exact bodyPost_ret (v := .tuple #[.agg #[.bool (trimD d).neg, .string (dStr (trimD d).i), .string (dStr (trimD d).f)], .int .i64 0]) (by simp [results, Tryd.results36, go_sem, e0, e1, e2]) rfl ⟨rfl, res_below (B4'.out.trans (hb5.mono B4'.out.size)) (by omega) _ _ _⟩
      · have hkp : 0 < k := by omega
        obtain ⟨m, rfl⟩ : ∃ m, k = m + 1 := ⟨k - 1, by omega⟩
        have hms : m < (dStr d.f).size := by rw [dStr_size]; omega
        have hget := dStr_get d.f HDF.out m hms
        have hne : d.f.getD m 0 ≠ 0 := fun h => hgo ⟨hkp, by rw [Nat.add_sub_cancel]; exact h⟩
        have q48 : ((((dStr d.f)[m]'hms).toNat : Int) == 48) = false := by
          rw [hget, beq_eq_false_iff_ne]
          intro e
          exact hne (by omega)
        have i0 : (0 : Int) ≤ (m : Int) := by omega
        have i2 : (m : Int) < (d.f.length : Int) := by omega
        have DT1 := DT.out
        rw [show ((m + 1 : Nat) : Int) = (m : Int) + 1 by omega] at DT1
        have DT := Lib.hid DT1
        clear hget hne hgo DT1
        go_wp2_with fail
        rw [← HW4.out]
        (with_reducible refine (DT.out _).mono ?_)
        rintro e W5 ⟨rfl, hb5⟩
        obtain ⟨r0, r1, r2⟩ := C4'.out.keep hb5 (by omega)
        have z0 := frozen_keep F4'.out hb5 (by omega)
        obtain ⟨e0, e1, e2⟩ := res_cells r0 r1 r2 (.bool (trimD d).neg) (.string (dStr (trimD d).i)) (.string (dStr (trimD d).f))
        go_wp2
        exact bodyPost_ret (v := .tuple #[.agg #[.bool (trimD d).neg, .string (dStr (trimD d).i), .string (dStr (trimD d).f)], .int .i64 0]) (by simp [results, Tryd.results36, go_sem, e0, e1, e2]) rfl ⟨rfl, res_below (B4'.out.trans (hb5.mono B4'.out.size)) (by omega) _ _ _⟩

set_option maxHeartbeats 1000000 in
set_option maxRecDepth 100000 in
theorem pad_bad (n : Bool) (i f : ByteArray) (k : Int) (w : World) (h1 : i.size ≤ 140737488355328) (h2 : f.size ≤ 140737488355328) (h : okB n i f = false) :
    Calls Tryd.prog 40 #[.agg #[.bool n, .string i, .string f], .int .i64 k] w fun e w' => e = .returned (.tuple #[.agg #[.bool false, .string ⟨#[]⟩, .string ⟨#[]⟩], .int .i64 20]) ∧ Below w.heap.size w w' := by
  have DC := Lib.hid (fun wx => check_any n i f wx h1 h2)
  have q := ck_bad h
  clear h
  go_enter Tryd.func40, Tryd.ntmps40
  go_wp2_with fail
  obtain ⟨W2, hW2⟩ : ∃ W2, W2 = (w.alloc (.cells #[.bool n, .string i, .string f] 27)).alloc (.cells #[.bool false, .string ⟨#[]⟩, .string ⟨#[]⟩] 27) := ⟨_, rfl⟩
  obtain ⟨hb2, hz2, CA, CR, FR⟩ : Below w.heap.size w W2 ∧ w.heap.size + 2 ≤ W2.heap.size ∧ Cells3 W2 w.heap.size (.bool n) (.string i) (.string f) ∧ Cells3 W2 (w.heap.size + 1) (.bool false) (.string ⟨#[]⟩) (.string ⟨#[]⟩) ∧ ∀ i, W2.frozen? ⟨w.heap.size + 1, i, none⟩ = false := by rw [hW2]; exact ⟨below_two w _ _, two_boxes w _ _ _ _ _ _ _⟩
  have FA : ∀ i, W2.frozen? ⟨w.heap.size, i, none⟩ = false := by
    rw [hW2]
    exact frozen_keep (one_box w (.bool n) (.string i) (.string f) 27).2.2 ((Below.refl _ _).alloc (Nat.le_refl _) _) (by simp)
  rw [← hW2]
  clear hW2
  (with_reducible refine (DC.out _).mono ?_)
  rintro e W3 ⟨rfl, hb3⟩
  obtain ⟨a0, a1, a2⟩ := CA.keep hb3 (by omega)
  have CR3 := Lib.hid (CR.keep hb3 (by omega))
  have FR3 := Lib.hid (frozen_keep FR hb3 (by omega))
  have FA3 := frozen_keep FA hb3 (by omega)
  have hz3 : w.heap.size + 2 ≤ W3.heap.size := by have := hb3.size; omega
  have B3 := Lib.hid (hb2.trans (hb3.mono hb2.size))
  clear hb3 hb2 CA CR FR FA hz2
  obtain ⟨r0, r1, r2⟩ := CR3.out
  have z0 := FR3.out
  obtain ⟨e0, e1, e2⟩ := res_cells r0 r1 r2 (.bool false) (.string ⟨#[]⟩) (.string ⟨#[]⟩)
  go_wp2
  exact bodyPost_ret (v := .tuple #[.agg #[.bool false, .string ⟨#[]⟩, .string ⟨#[]⟩], .int .i64 20]) (by simp [results, Tryd.results40, go_sem, e0, e1, e2]) rfl ⟨rfl, res_below B3.out (by omega) _ _ _⟩

set_option maxHeartbeats 2000000 in
set_option maxRecDepth 100000 in
theorem pad_lo (d : Dc) (k : Int) (w : World) (hd : d.Ok) (hk : k < 0) :
    Calls Tryd.prog 40 #[(.agg #[.bool d.neg, .string (dStr d.i), .string (dStr d.f)]), .int .i64 k] w fun e w' => e = .returned (.tuple #[.agg #[.bool false, .string ⟨#[]⟩, .string ⟨#[]⟩], .int .i64 1]) ∧ Below w.heap.size w w' := by
  have DC := Lib.hid (fun wx => check_any d.neg (dStr d.i) (dStr d.f) wx (by rw [dStr_size]; have := hd.most; omega) (by rw [dStr_size]; have := hd.most; omega))
  have q := ck_ok hd
  have hm := hd.most
  have ho1 := hd.one
  have si : (dStr d.i).size = d.i.length := dStr_size d.i
  have sf : (dStr d.f).size = d.f.length := dStr_size d.f
  clear hd
  have q0 : decide (k < 0) = true := decide_eq_true hk
  go_enter Tryd.func40, Tryd.ntmps40
  go_wp2_with fail
  obtain ⟨W2, hW2⟩ : ∃ W2, W2 = (w.alloc (.cells #[.bool d.neg, .string (dStr d.i), .string (dStr d.f)] 27)).alloc (.cells #[.bool false, .string ⟨#[]⟩, .string ⟨#[]⟩] 27) := ⟨_, rfl⟩
  obtain ⟨hb2, hz2, CA, CR, FR⟩ : Below w.heap.size w W2 ∧ w.heap.size + 2 ≤ W2.heap.size ∧ Cells3 W2 w.heap.size (.bool d.neg) (.string (dStr d.i)) (.string (dStr d.f)) ∧ Cells3 W2 (w.heap.size + 1) (.bool false) (.string ⟨#[]⟩) (.string ⟨#[]⟩) ∧ ∀ i, W2.frozen? ⟨w.heap.size + 1, i, none⟩ = false := by rw [hW2]; exact ⟨below_two w _ _, two_boxes w _ _ _ _ _ _ _⟩
  have FA : ∀ i, W2.frozen? ⟨w.heap.size, i, none⟩ = false := by
    rw [hW2]
    exact frozen_keep (one_box w (.bool d.neg) (.string (dStr d.i)) (.string (dStr d.f)) 27).2.2 ((Below.refl _ _).alloc (Nat.le_refl _) _) (by simp)
  rw [← hW2]
  clear hW2
  (with_reducible refine (DC.out _).mono ?_)
  rintro e W3 ⟨rfl, hb3⟩
  obtain ⟨a0, a1, a2⟩ := CA.keep hb3 (by omega)
  have CR3 := Lib.hid (CR.keep hb3 (by omega))
  have FR3 := Lib.hid (frozen_keep FR hb3 (by omega))
  have FA3 := frozen_keep FA hb3 (by omega)
  have hz3 : w.heap.size + 2 ≤ W3.heap.size := by have := hb3.size; omega
  have B3 := Lib.hid (hb2.trans (hb3.mono hb2.size))
  clear hb3 hb2 CA CR FR FA hz2
  obtain ⟨r0, r1, r2⟩ := CR3.out
  have z0 := FR3.out
  obtain ⟨e0, e1, e2⟩ := res_cells r0 r1 r2 (.bool false) (.string ⟨#[]⟩) (.string ⟨#[]⟩)
  go_wp2
  exact bodyPost_ret (v := .tuple #[.agg #[.bool false, .string ⟨#[]⟩, .string ⟨#[]⟩], .int .i64 1]) (by simp [results, Tryd.results40, go_sem, e0, e1, e2]) rfl ⟨rfl, res_below B3.out (by omega) _ _ _⟩

set_option maxHeartbeats 2000000 in
set_option maxRecDepth 100000 in
theorem pad_hi (d : Dc) (k : Int) (w : World) (hd : d.Ok) (hk : 40 < k) :
    Calls Tryd.prog 40 #[(.agg #[.bool d.neg, .string (dStr d.i), .string (dStr d.f)]), .int .i64 k] w fun e w' => e = .returned (.tuple #[.agg #[.bool false, .string ⟨#[]⟩, .string ⟨#[]⟩], .int .i64 1]) ∧ Below w.heap.size w w' := by
  have DC := Lib.hid (fun wx => check_any d.neg (dStr d.i) (dStr d.f) wx (by rw [dStr_size]; have := hd.most; omega) (by rw [dStr_size]; have := hd.most; omega))
  have q := ck_ok hd
  have hm := hd.most
  have ho1 := hd.one
  have si : (dStr d.i).size = d.i.length := dStr_size d.i
  have sf : (dStr d.f).size = d.f.length := dStr_size d.f
  clear hd
  have q0 : decide (k < 0) = false := decide_eq_false (by omega)
  have q1 : decide (40 < k) = true := decide_eq_true hk
  go_enter Tryd.func40, Tryd.ntmps40
  go_wp2_with fail
  obtain ⟨W2, hW2⟩ : ∃ W2, W2 = (w.alloc (.cells #[.bool d.neg, .string (dStr d.i), .string (dStr d.f)] 27)).alloc (.cells #[.bool false, .string ⟨#[]⟩, .string ⟨#[]⟩] 27) := ⟨_, rfl⟩
  obtain ⟨hb2, hz2, CA, CR, FR⟩ : Below w.heap.size w W2 ∧ w.heap.size + 2 ≤ W2.heap.size ∧ Cells3 W2 w.heap.size (.bool d.neg) (.string (dStr d.i)) (.string (dStr d.f)) ∧ Cells3 W2 (w.heap.size + 1) (.bool false) (.string ⟨#[]⟩) (.string ⟨#[]⟩) ∧ ∀ i, W2.frozen? ⟨w.heap.size + 1, i, none⟩ = false := by rw [hW2]; exact ⟨below_two w _ _, two_boxes w _ _ _ _ _ _ _⟩
  have FA : ∀ i, W2.frozen? ⟨w.heap.size, i, none⟩ = false := by
    rw [hW2]
    exact frozen_keep (one_box w (.bool d.neg) (.string (dStr d.i)) (.string (dStr d.f)) 27).2.2 ((Below.refl _ _).alloc (Nat.le_refl _) _) (by simp)
  rw [← hW2]
  clear hW2
  (with_reducible refine (DC.out _).mono ?_)
  rintro e W3 ⟨rfl, hb3⟩
  obtain ⟨a0, a1, a2⟩ := CA.keep hb3 (by omega)
  have CR3 := Lib.hid (CR.keep hb3 (by omega))
  have FR3 := Lib.hid (frozen_keep FR hb3 (by omega))
  have FA3 := frozen_keep FA hb3 (by omega)
  have hz3 : w.heap.size + 2 ≤ W3.heap.size := by have := hb3.size; omega
  have B3 := Lib.hid (hb2.trans (hb3.mono hb2.size))
  clear hb3 hb2 CA CR FR FA hz2
  obtain ⟨r0, r1, r2⟩ := CR3.out
  have z0 := FR3.out
  obtain ⟨e0, e1, e2⟩ := res_cells r0 r1 r2 (.bool false) (.string ⟨#[]⟩) (.string ⟨#[]⟩)
  go_wp2
  exact bodyPost_ret (v := .tuple #[.agg #[.bool false, .string ⟨#[]⟩, .string ⟨#[]⟩], .int .i64 1]) (by simp [results, Tryd.results40, go_sem, e0, e1, e2]) rfl ⟨rfl, res_below B3.out (by omega) _ _ _⟩

set_option maxHeartbeats 2000000 in
set_option maxRecDepth 100000 in
theorem pad_ok (d : Dc) (k : Nat) (w : World) (o : Option Dc) (ho : padD d k = o) (hd : d.Ok) (hk : k ≤ 40) :
    Calls Tryd.prog 40 #[(.agg #[.bool d.neg, .string (dStr d.i), .string (dStr d.f)]), .int .i64 k] w fun e w' => e = .returned (.tuple #[.agg #[.bool (oN o), .string (oI o), .string (oF o)], .int .i64 (oE o)]) ∧ Below w.heap.size w w' := by
  have DC := Lib.hid (fun wx => check_any d.neg (dStr d.i) (dStr d.f) wx (by rw [dStr_size]; have := hd.most; omega) (by rw [dStr_size]; have := hd.most; omega))
  have q := ck_ok hd
  have hm := hd.most
  have ho1 := hd.one
  have si : (dStr d.i).size = d.i.length := dStr_size d.i
  have sf : (dStr d.f).size = d.f.length := dStr_size d.f
  have DS : Hid (∀ (wx : World) {sI : Int}, sI = ((max d.f.length k : Nat) : Int) → Calls Tryd.prog 49 #[.agg #[.bool d.neg, .string (dStr d.i), .string (dStr d.f)], .int .i64 sI] wx fun e w' => e = .returned (.tuple #[.agg #[.bool (oN o), .string (oI o), .string (oF o)], .int .i64 (oE o)]) ∧ Below wx.heap.size wx w') := by
    intro wx sI hs
    subst hs
    exact atScale_any d (max d.f.length k) wx o ho hd.dg (by omega) (by omega)
  clear hd ho
  have q0 : decide ((k : Int) < 0) = false := decide_eq_false (by omega)
  have q1 : decide ((40 : Int) < (k : Int)) = false := decide_eq_false (by omega)
  have hc : (d.f.length : Int) < (k : Int) ∨ ¬ (d.f.length : Int) < (k : Int) := by omega
  rcases hc with hc | hc
  all_goals
    go_enter Tryd.func40, Tryd.ntmps40
    go_wp2_with fail
    obtain ⟨W2, hW2⟩ : ∃ W2, W2 = (w.alloc (.cells #[.bool d.neg, .string (dStr d.i), .string (dStr d.f)] 27)).alloc (.cells #[.bool false, .string ⟨#[]⟩, .string ⟨#[]⟩] 27) := ⟨_, rfl⟩
    obtain ⟨hb2, hz2, CA, CR, FR⟩ : Below w.heap.size w W2 ∧ w.heap.size + 2 ≤ W2.heap.size ∧ Cells3 W2 w.heap.size (.bool d.neg) (.string (dStr d.i)) (.string (dStr d.f)) ∧ Cells3 W2 (w.heap.size + 1) (.bool false) (.string ⟨#[]⟩) (.string ⟨#[]⟩) ∧ ∀ i, W2.frozen? ⟨w.heap.size + 1, i, none⟩ = false := by rw [hW2]; exact ⟨below_two w _ _, two_boxes w _ _ _ _ _ _ _⟩
    have FA : ∀ i, W2.frozen? ⟨w.heap.size, i, none⟩ = false := by
      rw [hW2]
      exact frozen_keep (one_box w (.bool d.neg) (.string (dStr d.i)) (.string (dStr d.f)) 27).2.2 ((Below.refl _ _).alloc (Nat.le_refl _) _) (by simp)
    rw [← hW2]
    clear hW2
    (with_reducible refine (DC.out _).mono ?_)
    rintro e W3 ⟨rfl, hb3⟩
    obtain ⟨a0, a1, a2⟩ := CA.keep hb3 (by omega)
    have CR3 := Lib.hid (CR.keep hb3 (by omega))
    have FR3 := Lib.hid (frozen_keep FR hb3 (by omega))
    have FA3 := frozen_keep FA hb3 (by omega)
    have hz3 : w.heap.size + 2 ≤ W3.heap.size := by have := hb3.size; omega
    have B3 := Lib.hid (hb2.trans (hb3.mono hb2.size))
    clear hb3 hb2 CA CR FR FA hz2
    go_wp2_with fail
    (with_reducible refine (DS.out _ ?_).mono ?_)
    · omega
    rintro e W5 ⟨rfl, hb5⟩
    obtain ⟨r0, r1, r2⟩ := CR3.out.keep hb5 (by omega)
    have z0 := frozen_keep FR3.out hb5 (by omega)
    obtain ⟨e0, e1, e2⟩ := res_cells r0 r1 r2 (.bool (oN o)) (.string (oI o)) (.string (oF o))
    go_wp2
    exact bodyPost_ret (v := .tuple #[.agg #[.bool (oN o), .string (oI o), .string (oF o)], .int .i64 (oE o)]) (by simp [results, Tryd.results40, go_sem, e0, e1, e2]) rfl ⟨rfl, res_below (B3.out.trans (hb5.mono B3.out.size)) (by omega) _ _ _⟩

set_option maxHeartbeats 1000000 in
set_option maxRecDepth 100000 in
theorem shift_bad (n : Bool) (i f : ByteArray) (k : Int) (w : World) (h1 : i.size ≤ 140737488355328) (h2 : f.size ≤ 140737488355328) (h : okB n i f = false) :
    Calls Tryd.prog 18 #[.agg #[.bool n, .string i, .string f], .int .i64 k] w fun e w' => e = .returned (.tuple #[.agg #[.bool false, .string ⟨#[]⟩, .string ⟨#[]⟩], .int .i64 20]) ∧ Below w.heap.size w w' := by
  have DC := Lib.hid (fun wx => check_any n i f wx h1 h2)
  have q := ck_bad h
  clear h
  go_enter Tryd.func18, Tryd.ntmps18
  go_wp2_with fail
  obtain ⟨W2, hW2⟩ : ∃ W2, W2 = (w.alloc (.cells #[.bool n, .string i, .string f] 27)).alloc (.cells #[.bool false, .string ⟨#[]⟩, .string ⟨#[]⟩] 27) := ⟨_, rfl⟩
  obtain ⟨hb2, hz2, CA, CR, FR⟩ : Below w.heap.size w W2 ∧ w.heap.size + 2 ≤ W2.heap.size ∧ Cells3 W2 w.heap.size (.bool n) (.string i) (.string f) ∧ Cells3 W2 (w.heap.size + 1) (.bool false) (.string ⟨#[]⟩) (.string ⟨#[]⟩) ∧ ∀ i, W2.frozen? ⟨w.heap.size + 1, i, none⟩ = false := by rw [hW2]; exact ⟨below_two w _ _, two_boxes w _ _ _ _ _ _ _⟩
  have FA : ∀ i, W2.frozen? ⟨w.heap.size, i, none⟩ = false := by
    rw [hW2]
    exact frozen_keep (one_box w (.bool n) (.string i) (.string f) 27).2.2 ((Below.refl _ _).alloc (Nat.le_refl _) _) (by simp)
  rw [← hW2]
  clear hW2
  (with_reducible refine (DC.out _).mono ?_)
  rintro e W3 ⟨rfl, hb3⟩
  obtain ⟨a0, a1, a2⟩ := CA.keep hb3 (by omega)
  have CR3 := Lib.hid (CR.keep hb3 (by omega))
  have FR3 := Lib.hid (frozen_keep FR hb3 (by omega))
  have FA3 := frozen_keep FA hb3 (by omega)
  have hz3 : w.heap.size + 2 ≤ W3.heap.size := by have := hb3.size; omega
  have B3 := Lib.hid (hb2.trans (hb3.mono hb2.size))
  clear hb3 hb2 CA CR FR FA hz2
  obtain ⟨r0, r1, r2⟩ := CR3.out
  have z0 := FR3.out
  obtain ⟨e0, e1, e2⟩ := res_cells r0 r1 r2 (.bool false) (.string ⟨#[]⟩) (.string ⟨#[]⟩)
  go_wp2
  exact bodyPost_ret (v := .tuple #[.agg #[.bool false, .string ⟨#[]⟩, .string ⟨#[]⟩], .int .i64 20]) (by simp [results, Tryd.results18, go_sem, e0, e1, e2]) rfl ⟨rfl, res_below B3.out (by omega) _ _ _⟩

set_option maxHeartbeats 2000000 in
set_option maxRecDepth 100000 in
theorem shift_lo (d : Dc) (k : Int) (w : World) (hd : d.Ok) (hk : k < -40) :
    Calls Tryd.prog 18 #[(.agg #[.bool d.neg, .string (dStr d.i), .string (dStr d.f)]), .int .i64 k] w fun e w' => e = .returned (.tuple #[.agg #[.bool false, .string ⟨#[]⟩, .string ⟨#[]⟩], .int .i64 1]) ∧ Below w.heap.size w w' := by
  have DC := Lib.hid (fun wx => check_any d.neg (dStr d.i) (dStr d.f) wx (by rw [dStr_size]; have := hd.most; omega) (by rw [dStr_size]; have := hd.most; omega))
  have q := ck_ok hd
  have hm := hd.most
  have ho1 := hd.one
  have si : (dStr d.i).size = d.i.length := dStr_size d.i
  have sf : (dStr d.f).size = d.f.length := dStr_size d.f
  clear hd
  have q0 : decide (k < -40) = true := decide_eq_true hk
  go_enter Tryd.func18, Tryd.ntmps18
  go_wp2_with fail
  obtain ⟨W2, hW2⟩ : ∃ W2, W2 = (w.alloc (.cells #[.bool d.neg, .string (dStr d.i), .string (dStr d.f)] 27)).alloc (.cells #[.bool false, .string ⟨#[]⟩, .string ⟨#[]⟩] 27) := ⟨_, rfl⟩
  obtain ⟨hb2, hz2, CA, CR, FR⟩ : Below w.heap.size w W2 ∧ w.heap.size + 2 ≤ W2.heap.size ∧ Cells3 W2 w.heap.size (.bool d.neg) (.string (dStr d.i)) (.string (dStr d.f)) ∧ Cells3 W2 (w.heap.size + 1) (.bool false) (.string ⟨#[]⟩) (.string ⟨#[]⟩) ∧ ∀ i, W2.frozen? ⟨w.heap.size + 1, i, none⟩ = false := by rw [hW2]; exact ⟨below_two w _ _, two_boxes w _ _ _ _ _ _ _⟩
  have FA : ∀ i, W2.frozen? ⟨w.heap.size, i, none⟩ = false := by
    rw [hW2]
    exact frozen_keep (one_box w (.bool d.neg) (.string (dStr d.i)) (.string (dStr d.f)) 27).2.2 ((Below.refl _ _).alloc (Nat.le_refl _) _) (by simp)
  rw [← hW2]
  clear hW2
  (with_reducible refine (DC.out _).mono ?_)
  rintro e W3 ⟨rfl, hb3⟩
  obtain ⟨a0, a1, a2⟩ := CA.keep hb3 (by omega)
  have CR3 := Lib.hid (CR.keep hb3 (by omega))
  have FR3 := Lib.hid (frozen_keep FR hb3 (by omega))
  have FA3 := frozen_keep FA hb3 (by omega)
  have hz3 : w.heap.size + 2 ≤ W3.heap.size := by have := hb3.size; omega
  have B3 := Lib.hid (hb2.trans (hb3.mono hb2.size))
  clear hb3 hb2 CA CR FR FA hz2
  obtain ⟨r0, r1, r2⟩ := CR3.out
  have z0 := FR3.out
  obtain ⟨e0, e1, e2⟩ := res_cells r0 r1 r2 (.bool false) (.string ⟨#[]⟩) (.string ⟨#[]⟩)
  go_wp2
  exact bodyPost_ret (v := .tuple #[.agg #[.bool false, .string ⟨#[]⟩, .string ⟨#[]⟩], .int .i64 1]) (by simp [results, Tryd.results18, go_sem, e0, e1, e2]) rfl ⟨rfl, res_below B3.out (by omega) _ _ _⟩

set_option maxHeartbeats 2000000 in
set_option maxRecDepth 100000 in
theorem shift_hi (d : Dc) (k : Int) (w : World) (hd : d.Ok) (hk : 40 < k) :
    Calls Tryd.prog 18 #[(.agg #[.bool d.neg, .string (dStr d.i), .string (dStr d.f)]), .int .i64 k] w fun e w' => e = .returned (.tuple #[.agg #[.bool false, .string ⟨#[]⟩, .string ⟨#[]⟩], .int .i64 1]) ∧ Below w.heap.size w w' := by
  have DC := Lib.hid (fun wx => check_any d.neg (dStr d.i) (dStr d.f) wx (by rw [dStr_size]; have := hd.most; omega) (by rw [dStr_size]; have := hd.most; omega))
  have q := ck_ok hd
  have hm := hd.most
  have ho1 := hd.one
  have si : (dStr d.i).size = d.i.length := dStr_size d.i
  have sf : (dStr d.f).size = d.f.length := dStr_size d.f
  clear hd
  have q0 : decide (k < -40) = false := decide_eq_false (by omega)
  have q1 : decide (40 < k) = true := decide_eq_true hk
  go_enter Tryd.func18, Tryd.ntmps18
  go_wp2_with fail
  obtain ⟨W2, hW2⟩ : ∃ W2, W2 = (w.alloc (.cells #[.bool d.neg, .string (dStr d.i), .string (dStr d.f)] 27)).alloc (.cells #[.bool false, .string ⟨#[]⟩, .string ⟨#[]⟩] 27) := ⟨_, rfl⟩
  obtain ⟨hb2, hz2, CA, CR, FR⟩ : Below w.heap.size w W2 ∧ w.heap.size + 2 ≤ W2.heap.size ∧ Cells3 W2 w.heap.size (.bool d.neg) (.string (dStr d.i)) (.string (dStr d.f)) ∧ Cells3 W2 (w.heap.size + 1) (.bool false) (.string ⟨#[]⟩) (.string ⟨#[]⟩) ∧ ∀ i, W2.frozen? ⟨w.heap.size + 1, i, none⟩ = false := by rw [hW2]; exact ⟨below_two w _ _, two_boxes w _ _ _ _ _ _ _⟩
  have FA : ∀ i, W2.frozen? ⟨w.heap.size, i, none⟩ = false := by
    rw [hW2]
    exact frozen_keep (one_box w (.bool d.neg) (.string (dStr d.i)) (.string (dStr d.f)) 27).2.2 ((Below.refl _ _).alloc (Nat.le_refl _) _) (by simp)
  rw [← hW2]
  clear hW2
  (with_reducible refine (DC.out _).mono ?_)
  rintro e W3 ⟨rfl, hb3⟩
  obtain ⟨a0, a1, a2⟩ := CA.keep hb3 (by omega)
  have CR3 := Lib.hid (CR.keep hb3 (by omega))
  have FR3 := Lib.hid (frozen_keep FR hb3 (by omega))
  have FA3 := frozen_keep FA hb3 (by omega)
  have hz3 : w.heap.size + 2 ≤ W3.heap.size := by have := hb3.size; omega
  have B3 := Lib.hid (hb2.trans (hb3.mono hb2.size))
  clear hb3 hb2 CA CR FR FA hz2
  obtain ⟨r0, r1, r2⟩ := CR3.out
  have z0 := FR3.out
  obtain ⟨e0, e1, e2⟩ := res_cells r0 r1 r2 (.bool false) (.string ⟨#[]⟩) (.string ⟨#[]⟩)
  go_wp2
  exact bodyPost_ret (v := .tuple #[.agg #[.bool false, .string ⟨#[]⟩, .string ⟨#[]⟩], .int .i64 1]) (by simp [results, Tryd.results18, go_sem, e0, e1, e2]) rfl ⟨rfl, res_below B3.out (by omega) _ _ _⟩

set_option maxHeartbeats 4000000 in
set_option maxRecDepth 100000 in
theorem shift_ok (d : Dc) (k : Int) (w : World) (o : Option Dc) (ho : shD d k = o) (hd : d.Ok) (h1 : -40 ≤ k) (h2 : k ≤ 40) :
    Calls Tryd.prog 18 #[(.agg #[.bool d.neg, .string (dStr d.i), .string (dStr d.f)]), .int .i64 k] w fun e w' => e = .returned (.tuple #[.agg #[.bool (oN o), .string (oI o), .string (oF o)], .int .i64 (oE o)]) ∧ Below w.heap.size w w' := by
  have DC := Lib.hid (fun wx => check_any d.neg (dStr d.i) (dStr d.f) wx (by rw [dStr_size]; have := hd.most; omega) (by rw [dStr_size]; have := hd.most; omega))
  have q := ck_ok hd
  have hm := hd.most
  have ho1 := hd.one
  have si : (dStr d.i).size = d.i.length := dStr_size d.i
  have sf : (dStr d.f).size = d.f.length := dStr_size d.f
  obtain ⟨sc, hsc⟩ : ∃ sc : Nat, (sc : Int) = max (d.f.length : Int) k := ⟨(max (d.f.length : Int) k).toNat, by omega⟩
  have HO : Hid (mkN d.neg (d.raised sc) ((sc : Int) - k).toNat = o) := by show _ = _; rw [← ho]; exact sh_ref d k sc hsc
  have DF : Hid (∀ (wx : World) {wI sI : Int}, wI = (d.i.length : Int) → sI = (sc : Int) → Calls Tryd.prog 35 #[(.agg #[.bool d.neg, .string (dStr d.i), .string (dStr d.f)]), .int .i64 wI, .int .i64 sI] wx fun e w' => e = .returned (.slice (some ⟨wx.heap.size + 1, 0, none⟩) (d.i.length + sc) (d.i.length + sc)) ∧ Blk w' (wx.heap.size + 1) (nC (placed d.i d.f d.i.length sc)) ∧ Below wx.heap.size wx w') :=
    fun wx wI sI h3 h4 => digitsOf_at d.neg d.i d.f d.i.length sc wI sI wx h3 h4 hd.di hd.df ho1 (Nat.le_refl _) (by omega) (by omega)
  have DM : Hid (∀ (g : Nat) (wx : World) {sI : Int}, sI = (sc : Int) - k → Blk wx g (nC (placed d.i d.f d.i.length sc)) → Calls Tryd.prog 34 #[.bool d.neg, .slice (some ⟨g, 0, none⟩) (d.i.length + sc) (d.i.length + sc), .int .i64 sI] wx fun e w' => e = .returned (.tuple #[.agg #[.bool (oN o), .string (oI o), .string (oF o)], .int .i64 (oE o)]) ∧ Below wx.heap.size wx w') := by
    intro g wx sI h3 hB
    obtain ⟨t, ht⟩ : ∃ t : Nat, (t : Int) = (sc : Int) - k := ⟨((sc : Int) - k).toNat, by omega⟩
    rw [h3, ← ht]
    have hO := HO.out
    rw [← ht, Int.toNat_natCast] at hO
    exact decimalOf_at d.neg _ _ g t wx o (by rw [placed_num]; exact hO) (placed_digs hd.di hd.df) (placed_len (Nat.le_refl _) (by omega)) hB (by omega) (by omega)
  clear hd ho HO
  have q0 : decide (k < -40) = false := decide_eq_false (by omega)
  have q1 : decide (40 < k) = false := decide_eq_false (by omega)
  have hc : (d.f.length : Int) < k ∨ ¬ (d.f.length : Int) < k := by omega
  rcases hc with hc | hc
  all_goals
    go_enter Tryd.func18, Tryd.ntmps18
    go_wp2_with fail
    obtain ⟨W2, hW2⟩ : ∃ W2, W2 = (w.alloc (.cells #[.bool d.neg, .string (dStr d.i), .string (dStr d.f)] 27)).alloc (.cells #[.bool false, .string ⟨#[]⟩, .string ⟨#[]⟩] 27) := ⟨_, rfl⟩
    obtain ⟨hb2, hz2, CA, CR, FR⟩ : Below w.heap.size w W2 ∧ w.heap.size + 2 ≤ W2.heap.size ∧ Cells3 W2 w.heap.size (.bool d.neg) (.string (dStr d.i)) (.string (dStr d.f)) ∧ Cells3 W2 (w.heap.size + 1) (.bool false) (.string ⟨#[]⟩) (.string ⟨#[]⟩) ∧ ∀ i, W2.frozen? ⟨w.heap.size + 1, i, none⟩ = false := by rw [hW2]; exact ⟨below_two w _ _, two_boxes w _ _ _ _ _ _ _⟩
    have FA : ∀ i, W2.frozen? ⟨w.heap.size, i, none⟩ = false := by
      rw [hW2]
      exact frozen_keep (one_box w (.bool d.neg) (.string (dStr d.i)) (.string (dStr d.f)) 27).2.2 ((Below.refl _ _).alloc (Nat.le_refl _) _) (by simp)
    rw [← hW2]
    clear hW2
    (with_reducible refine (DC.out _).mono ?_)
    rintro e W3 ⟨rfl, hb3⟩
    obtain ⟨a0, a1, a2⟩ := CA.keep hb3 (by omega)
    have CR3 := Lib.hid (CR.keep hb3 (by omega))
    have FR3 := Lib.hid (frozen_keep FR hb3 (by omega))
    have FA3 := frozen_keep FA hb3 (by omega)
    have hz3 : w.heap.size + 2 ≤ W3.heap.size := by have := hb3.size; omega
    have B3 := Lib.hid (hb2.trans (hb3.mono hb2.size))
    clear hb3 hb2 CA CR FR FA hz2
    go_wp2_with fail
    have CA3 := Lib.hid (show Cells3 W3 w.heap.size _ _ _ from ⟨a0, a1, a2⟩)
    have wz0 : IntKind.i64.wrap 0 = 0 := by decide
    have wz1 : IntKind.i64.wrap ((d.f.length : Int) - k) = (d.f.length : Int) - k ∨ (d.f.length : Int) < k := by
      by_cases c : (d.f.length : Int) < k
      · exact .inr c
      · exact .inl (IntWalk.i64_in _ (by omega))
    go_region_held3 (fun w' => w'.cell? ⟨w.heap.size, 0, none⟩ = some (.bool d.neg) ∧ w'.cell? ⟨w.heap.size, 1, none⟩ = some (.string (dStr d.i)) ∧ w'.cell? ⟨w.heap.size, 2, none⟩ = some (.string (dStr d.f)))
      (first
        | exact ⟨a0, a1, a2⟩
        | (have t := CA3.out.keep (undrew hbA) (by omega); exact ⟨t.1, t.2.1, t.2.2⟩)
        | (have t := CA3.out.keep hb4 (by omega); exact ⟨t.1, t.2.1, t.2.2⟩)
        | (have t := CA3.out.keep hb4 (by omega); exact ⟨(far3 _ _ _ _ _ _ _ (by omega)).trans t.1, (far3 _ _ _ _ _ _ _ (by omega)).trans t.2.1, (far3 _ _ _ _ _ _ _ (by omega)).trans t.2.2⟩)
        | go_keep)
      (first
        | (go_at_call 35; (with_reducible refine (DF.out _ ?_ ?_).mono ?_); (focus omega); (focus omega); rintro e wA ⟨rfl, hkA, hbA⟩)
        | (go_at_call 34; (with_reducible refine (DM.out _ _ ?_ ?_).mono ?_); (focus omega); (focus exact hkA); rintro e wB ⟨rfl, hbB⟩
           have hb4 : Below W3.heap.size W3 wB := (undrew hbA).trans (hbB.mono (undrew hbA).size)
           obtain ⟨r0, r1, r2⟩ := CR3.out.keep hb4 (by omega)
           have z0 := frozen_keep FR3.out hb4 (by omega)))
    obtain ⟨e0, e1, e2⟩ := res_cells r0 r1 r2 (.bool (oN o)) (.string (oI o)) (.string (oF o))
    go_wp2
    exact bodyPost_ret (v := .tuple #[.agg #[.bool (oN o), .string (oI o), .string (oF o)], .int .i64 (oE o)]) (by simp [results, Tryd.results18, go_sem, e0, e1, e2]) rfl ⟨rfl, res_below (B3.out.trans (hb4.mono B3.out.size)) (by omega) _ _ _⟩
end Go.Proofs.YtmggdnnffdaffaaDoor
