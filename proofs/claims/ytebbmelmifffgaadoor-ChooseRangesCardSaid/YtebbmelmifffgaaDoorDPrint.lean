/- Print of the program. -/
import Derived.Test.YtebbmelmifffgaaDoorDTop
import Derived.Test.YtebbmelmifffgaaDoorRow
namespace Go.Proofs.YtebbmelmifffgaaDoor
open Go.RowKit

/-- The text of a decimal. -/
def txS (d : Dc) : ByteArray := ⟨(txt d.rw).toArray⟩
theorem Row.nil (B : Nat) (w : World) : Row B (.slice none 0 0) [] w := ⟨rfl, .inl ⟨rfl, rfl⟩⟩

set_option maxHeartbeats 1000000 in
set_option maxRecDepth 100000 in
theorem print_bad (n : Bool) (i f : ByteArray) (w : World) (h1 : i.size ≤ 140737488355328) (h2 : f.size ≤ 140737488355328) (h : okB n i f = false) :
    Calls Tryd.prog 88 #[.agg #[.bool n, .string i, .string f]] w fun e w' => e = .returned (.tuple #[.string ⟨#[]⟩, .int .i64 20]) ∧ Below w.heap.size w w' := by
  have DC := Lib.hid (fun wx => check_any n i f wx h1 h2)
  have q := ck_bad h
  clear h
  go_enter Tryd.func88, Tryd.ntmps88
  go_wp2_with fail
  (with_reducible refine (DC.out _).mono ?_)
  rintro e W1 ⟨rfl, hb⟩
  go_wp2
  go_ret2
  exact ⟨rfl, ((Below.refl _ w).alloc (Nat.le_refl _) _).trans (hb.mono (by simp))⟩

set_option maxHeartbeats 2000000 in
set_option maxRecDepth 100000 in
theorem print_ok (d : Dc) (w : World) (hd : d.Ok) :
    Calls Tryd.prog 88 #[.agg #[.bool d.neg, .string (dStr d.i), .string (dStr d.f)]] w fun e w' => e = .returned (.tuple #[.string (txS d), .int .i64 0]) ∧ Below w.heap.size w w' := by
  have hm := hd.most
  have DC := Lib.hid (fun wx => check_any d.neg (dStr d.i) (dStr d.f) wx (by rw [dStr_size]; omega) (by rw [dStr_size]; omega))
  have q := ck_ok hd
  have TX : Hid (txS d = ⟨(txt d.rw).toArray⟩) := rfl
  have SF := Lib.hid (dStr_size d.f)
  clear hd
  cases hn : d.neg
  all_goals
    have HN := Lib.hid hn
    rw [hn] at DC q
    clear hn
  · by_cases hf : d.f.length = 0
    · have n1 : (dStr d.f).toList = [] := toList_nil.2 (by rw [dStr_size]; exact hf)
      have HF : Hid (d.f = []) := List.eq_nil_of_length_eq_zero hf
      clear hf
      go_enter Tryd.func88, Tryd.ntmps88
      go_wp2_with fail
      (with_reducible refine (DC.out _).mono ?_)
      rintro e W1 ⟨rfl, hb⟩
      obtain ⟨_, hC, _⟩ := one_box w (.bool false) (.string (dStr d.i)) (.string (dStr d.f)) 55
      have CX := Lib.hid (hC.keep hb (by simp))
      obtain ⟨c0, c1, c2⟩ := CX.out
      have hz : w.heap.size < W1.heap.size := by have := hb.size; simp at this; omega
      have B1 := Lib.hid (((Below.refl _ w).alloc (Nat.le_refl _) (.cells #[.bool false, .string (dStr d.i), .string (dStr d.f)] 55)).trans (hb.mono (by simp)))
      have HR0 := Lib.hid (Row.nil W1.heap.size W1)
      have HB1 := Lib.hid (Below.refl W1.heap.size W1)
      clear hb hC
      go_wp2_with (at_builtin; go_loud (refine wp_append_string (w := W1) rfl _ _ rfl W1.heap.size (.slice none 0 0) (([] : List UInt8)) rfl HR0.out (dStr d.i) rfl (by simp [dStr_size] <;> omega) (by have := HB1.out.size; omega) ?_))
      intro v1 w1 hr1 hb1
      have HR1 := Lib.hid hr1
      have HB2 := Lib.hid (HB1.out.trans hb1)
      have m11 : w1.cell? ⟨w.heap.size, 1, none⟩ = some (.string (dStr d.i)) := (HB2.out.cell (p := ⟨w.heap.size, 1, none⟩) (by show w.heap.size < W1.heap.size; omega)).trans CX.out.2.1
      have m12 : w1.cell? ⟨w.heap.size, 2, none⟩ = some (.string (dStr d.f)) := (HB2.out.cell (p := ⟨w.heap.size, 2, none⟩) (by show w.heap.size < W1.heap.size; omega)).trans CX.out.2.2
      clear hr1 hb1
      have kc : (convert 115 9 v1).run Tryd.prog w1 = .ok (.string (txS d)) w1 := by
        have hk := row_string HR1.out
        rw [TX.out]
        simpa [dStr_toList, txt, Dc.rw, dB, HN.out, HF.out] using hk
      go_wp2
      go_ret2
      exact ⟨rfl, B1.out.trans (HB2.out.mono B1.out.size)⟩
    · have n1 : ¬ (dStr d.f).toList = [] := fun h => hf (by have := toList_nil.1 h; rw [dStr_size] at this; exact this)
      have n2 : (dStr d.f).toList.isEmpty = false := by simpa using n1
      have HF : Hid (¬ d.f = []) := fun h => hf (by rw [h]; rfl)
      clear hf
      go_enter Tryd.func88, Tryd.ntmps88
      go_wp2_with fail
      (with_reducible refine (DC.out _).mono ?_)
      rintro e W1 ⟨rfl, hb⟩
      obtain ⟨_, hC, _⟩ := one_box w (.bool false) (.string (dStr d.i)) (.string (dStr d.f)) 55
      have CX := Lib.hid (hC.keep hb (by simp))
      obtain ⟨c0, c1, c2⟩ := CX.out
      have hz : w.heap.size < W1.heap.size := by have := hb.size; simp at this; omega
      have B1 := Lib.hid (((Below.refl _ w).alloc (Nat.le_refl _) (.cells #[.bool false, .string (dStr d.i), .string (dStr d.f)] 55)).trans (hb.mono (by simp)))
      have HR0 := Lib.hid (Row.nil W1.heap.size W1)
      have HB1 := Lib.hid (Below.refl W1.heap.size W1)
      clear hb hC
      go_wp2_with (at_builtin; go_loud (refine wp_append_string (w := W1) rfl _ _ rfl W1.heap.size (.slice none 0 0) (([] : List UInt8)) rfl HR0.out (dStr d.i) rfl (by simp [dStr_size] <;> omega) (by have := HB1.out.size; omega) ?_))
      intro v1 w1 hr1 hb1
      have HR1 := Lib.hid hr1
      have HB2 := Lib.hid (HB1.out.trans hb1)
      have m11 : w1.cell? ⟨w.heap.size, 1, none⟩ = some (.string (dStr d.i)) := (HB2.out.cell (p := ⟨w.heap.size, 1, none⟩) (by show w.heap.size < W1.heap.size; omega)).trans CX.out.2.1
      have m12 : w1.cell? ⟨w.heap.size, 2, none⟩ = some (.string (dStr d.f)) := (HB2.out.cell (p := ⟨w.heap.size, 2, none⟩) (by show w.heap.size < W1.heap.size; omega)).trans CX.out.2.2
      clear hr1 hb1
      go_wp2_with (at_builtin; go_loud (refine wp_append_new (w := w1) rfl _ _ rfl W1.heap.size v1 (([] : List UInt8) ++ (dStr d.i).data.toList) rfl HR1.out [46] _ 1 rfl rfl rfl (by simp [dStr_size] <;> omega) (by have := HB2.out.size; omega) ?_))
      intro v2 w2 hr2 hb2
      have HR2 := Lib.hid hr2
      have HB3 := Lib.hid (HB2.out.trans hb2)
      have m21 : w2.cell? ⟨w.heap.size, 1, none⟩ = some (.string (dStr d.i)) := (HB3.out.cell (p := ⟨w.heap.size, 1, none⟩) (by show w.heap.size < W1.heap.size; omega)).trans CX.out.2.1
      have m22 : w2.cell? ⟨w.heap.size, 2, none⟩ = some (.string (dStr d.f)) := (HB3.out.cell (p := ⟨w.heap.size, 2, none⟩) (by show w.heap.size < W1.heap.size; omega)).trans CX.out.2.2
      clear hr2 hb2
      go_wp2_with (at_builtin; go_loud (refine wp_append_string (w := w2) rfl _ _ rfl W1.heap.size v2 (([] : List UInt8) ++ (dStr d.i).data.toList ++ [46]) rfl HR2.out (dStr d.f) rfl (by simp [dStr_size] <;> omega) (by have := HB3.out.size; omega) ?_))
      intro v3 w3 hr3 hb3
      have HR3 := Lib.hid hr3
      have HB4 := Lib.hid (HB3.out.trans hb3)
      have m31 : w3.cell? ⟨w.heap.size, 1, none⟩ = some (.string (dStr d.i)) := (HB4.out.cell (p := ⟨w.heap.size, 1, none⟩) (by show w.heap.size < W1.heap.size; omega)).trans CX.out.2.1
      have m32 : w3.cell? ⟨w.heap.size, 2, none⟩ = some (.string (dStr d.f)) := (HB4.out.cell (p := ⟨w.heap.size, 2, none⟩) (by show w.heap.size < W1.heap.size; omega)).trans CX.out.2.2
      clear hr3 hb3
      have kc : (convert 115 9 v3).run Tryd.prog w3 = .ok (.string (txS d)) w3 := by
        have hk := row_string HR3.out
        rw [TX.out]
        simpa [dStr_toList, txt, Dc.rw, dB, HN.out, HF.out] using hk
      go_wp2
      go_ret2
      exact ⟨rfl, B1.out.trans (HB4.out.mono B1.out.size)⟩
  · by_cases hf : d.f.length = 0
    · have n1 : (dStr d.f).toList = [] := toList_nil.2 (by rw [dStr_size]; exact hf)
      have HF : Hid (d.f = []) := List.eq_nil_of_length_eq_zero hf
      clear hf
      go_enter Tryd.func88, Tryd.ntmps88
      go_wp2_with fail
      (with_reducible refine (DC.out _).mono ?_)
      rintro e W1 ⟨rfl, hb⟩
      obtain ⟨_, hC, _⟩ := one_box w (.bool true) (.string (dStr d.i)) (.string (dStr d.f)) 55
      have CX := Lib.hid (hC.keep hb (by simp))
      obtain ⟨c0, c1, c2⟩ := CX.out
      have hz : w.heap.size < W1.heap.size := by have := hb.size; simp at this; omega
      have B1 := Lib.hid (((Below.refl _ w).alloc (Nat.le_refl _) (.cells #[.bool true, .string (dStr d.i), .string (dStr d.f)] 55)).trans (hb.mono (by simp)))
      have HR0 := Lib.hid (Row.nil W1.heap.size W1)
      have HB1 := Lib.hid (Below.refl W1.heap.size W1)
      clear hb hC
      go_wp2_with (at_builtin; go_loud (refine wp_append_new (w := W1) rfl _ _ rfl W1.heap.size (.slice none 0 0) (([] : List UInt8)) rfl HR0.out [45] _ 1 rfl rfl rfl (by simp) (by have := HB1.out.size; omega) ?_))
      intro v1 w1 hr1 hb1
      have HR1 := Lib.hid hr1
      have HB2 := Lib.hid (HB1.out.trans hb1)
      have m11 : w1.cell? ⟨w.heap.size, 1, none⟩ = some (.string (dStr d.i)) := (HB2.out.cell (p := ⟨w.heap.size, 1, none⟩) (by show w.heap.size < W1.heap.size; omega)).trans CX.out.2.1
      have m12 : w1.cell? ⟨w.heap.size, 2, none⟩ = some (.string (dStr d.f)) := (HB2.out.cell (p := ⟨w.heap.size, 2, none⟩) (by show w.heap.size < W1.heap.size; omega)).trans CX.out.2.2
      clear hr1 hb1
      go_wp2_with (at_builtin; go_loud (refine wp_append_string (w := w1) rfl _ _ rfl W1.heap.size v1 (([] : List UInt8) ++ [45]) rfl HR1.out (dStr d.i) rfl (by simp [dStr_size] <;> omega) (by have := HB2.out.size; omega) ?_))
      intro v2 w2 hr2 hb2
      have HR2 := Lib.hid hr2
      have HB3 := Lib.hid (HB2.out.trans hb2)
      have m21 : w2.cell? ⟨w.heap.size, 1, none⟩ = some (.string (dStr d.i)) := (HB3.out.cell (p := ⟨w.heap.size, 1, none⟩) (by show w.heap.size < W1.heap.size; omega)).trans CX.out.2.1
      have m22 : w2.cell? ⟨w.heap.size, 2, none⟩ = some (.string (dStr d.f)) := (HB3.out.cell (p := ⟨w.heap.size, 2, none⟩) (by show w.heap.size < W1.heap.size; omega)).trans CX.out.2.2
      clear hr2 hb2
      have kc : (convert 115 9 v2).run Tryd.prog w2 = .ok (.string (txS d)) w2 := by
        have hk := row_string HR2.out
        rw [TX.out]
        simpa [dStr_toList, txt, Dc.rw, dB, HN.out, HF.out] using hk
      go_wp2
      go_ret2
      exact ⟨rfl, B1.out.trans (HB3.out.mono B1.out.size)⟩
    · have n1 : ¬ (dStr d.f).toList = [] := fun h => hf (by have := toList_nil.1 h; rw [dStr_size] at this; exact this)
      have n2 : (dStr d.f).toList.isEmpty = false := by simpa using n1
      have HF : Hid (¬ d.f = []) := fun h => hf (by rw [h]; rfl)
      clear hf
      go_enter Tryd.func88, Tryd.ntmps88
      go_wp2_with fail
      (with_reducible refine (DC.out _).mono ?_)
      rintro e W1 ⟨rfl, hb⟩
      obtain ⟨_, hC, _⟩ := one_box w (.bool true) (.string (dStr d.i)) (.string (dStr d.f)) 55
      have CX := Lib.hid (hC.keep hb (by simp))
      obtain ⟨c0, c1, c2⟩ := CX.out
      have hz : w.heap.size < W1.heap.size := by have := hb.size; simp at this; omega
      have B1 := Lib.hid (((Below.refl _ w).alloc (Nat.le_refl _) (.cells #[.bool true, .string (dStr d.i), .string (dStr d.f)] 55)).trans (hb.mono (by simp)))
      have HR0 := Lib.hid (Row.nil W1.heap.size W1)
      have HB1 := Lib.hid (Below.refl W1.heap.size W1)
      clear hb hC
      go_wp2_with (at_builtin; go_loud (refine wp_append_new (w := W1) rfl _ _ rfl W1.heap.size (.slice none 0 0) (([] : List UInt8)) rfl HR0.out [45] _ 1 rfl rfl rfl (by simp) (by have := HB1.out.size; omega) ?_))
      intro v1 w1 hr1 hb1
      have HR1 := Lib.hid hr1
      have HB2 := Lib.hid (HB1.out.trans hb1)
      have m11 : w1.cell? ⟨w.heap.size, 1, none⟩ = some (.string (dStr d.i)) := (HB2.out.cell (p := ⟨w.heap.size, 1, none⟩) (by show w.heap.size < W1.heap.size; omega)).trans CX.out.2.1
      have m12 : w1.cell? ⟨w.heap.size, 2, none⟩ = some (.string (dStr d.f)) := (HB2.out.cell (p := ⟨w.heap.size, 2, none⟩) (by show w.heap.size < W1.heap.size; omega)).trans CX.out.2.2
      clear hr1 hb1
      go_wp2_with (at_builtin; go_loud (refine wp_append_string (w := w1) rfl _ _ rfl W1.heap.size v1 (([] : List UInt8) ++ [45]) rfl HR1.out (dStr d.i) rfl (by simp [dStr_size] <;> omega) (by have := HB2.out.size; omega) ?_))
      intro v2 w2 hr2 hb2
      have HR2 := Lib.hid hr2
      have HB3 := Lib.hid (HB2.out.trans hb2)
      have m21 : w2.cell? ⟨w.heap.size, 1, none⟩ = some (.string (dStr d.i)) := (HB3.out.cell (p := ⟨w.heap.size, 1, none⟩) (by show w.heap.size < W1.heap.size; omega)).trans CX.out.2.1
      have m22 : w2.cell? ⟨w.heap.size, 2, none⟩ = some (.string (dStr d.f)) := (HB3.out.cell (p := ⟨w.heap.size, 2, none⟩) (by show w.heap.size < W1.heap.size; omega)).trans CX.out.2.2
      clear hr2 hb2
      go_wp2_with (at_builtin; go_loud (refine wp_append_new (w := w2) rfl _ _ rfl W1.heap.size v2 (([] : List UInt8) ++ [45] ++ (dStr d.i).data.toList) rfl HR2.out [46] _ 1 rfl rfl rfl (by simp [dStr_size] <;> omega) (by have := HB3.out.size; omega) ?_))
      intro v3 w3 hr3 hb3
      have HR3 := Lib.hid hr3
      have HB4 := Lib.hid (HB3.out.trans hb3)
      have m31 : w3.cell? ⟨w.heap.size, 1, none⟩ = some (.string (dStr d.i)) := (HB4.out.cell (p := ⟨w.heap.size, 1, none⟩) (by show w.heap.size < W1.heap.size; omega)).trans CX.out.2.1
      have m32 : w3.cell? ⟨w.heap.size, 2, none⟩ = some (.string (dStr d.f)) := (HB4.out.cell (p := ⟨w.heap.size, 2, none⟩) (by show w.heap.size < W1.heap.size; omega)).trans CX.out.2.2
      clear hr3 hb3
      go_wp2_with (at_builtin; go_loud (refine wp_append_string (w := w3) rfl _ _ rfl W1.heap.size v3 (([] : List UInt8) ++ [45] ++ (dStr d.i).data.toList ++ [46]) rfl HR3.out (dStr d.f) rfl (by simp [dStr_size] <;> omega) (by have := HB4.out.size; omega) ?_))
      intro v4 w4 hr4 hb4
      have HR4 := Lib.hid hr4
      have HB5 := Lib.hid (HB4.out.trans hb4)
      have m41 : w4.cell? ⟨w.heap.size, 1, none⟩ = some (.string (dStr d.i)) := (HB5.out.cell (p := ⟨w.heap.size, 1, none⟩) (by show w.heap.size < W1.heap.size; omega)).trans CX.out.2.1
      have m42 : w4.cell? ⟨w.heap.size, 2, none⟩ = some (.string (dStr d.f)) := (HB5.out.cell (p := ⟨w.heap.size, 2, none⟩) (by show w.heap.size < W1.heap.size; omega)).trans CX.out.2.2
      clear hr4 hb4
      have kc : (convert 115 9 v4).run Tryd.prog w4 = .ok (.string (txS d)) w4 := by
        have hk := row_string HR4.out
        rw [TX.out]
        simpa [dStr_toList, txt, Dc.rw, dB, HN.out, HF.out] using hk
      go_wp2
      go_ret2
      exact ⟨rfl, B1.out.trans (HB5.out.mono B1.out.size)⟩
end Go.Proofs.YtebbmelmifffgaaDoor
