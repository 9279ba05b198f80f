/- ChooseEnglish: the number 1 without a point is one, and nothing else. -/
import Derived.Test.YtebbmelmifffgabDoorMkF
namespace Go.Proofs.YtebbmelmifffgabDoor
open Go.RowKit

theorem one_digits {d : Dc} (hd : d.Ok) : dVal d.i = 1 ↔ (dStr d.i).toList = [49] := by
  constructor
  · intro h
    have hl : d.i.length = 1 := by
      rcases hd.lead with h1 | ⟨x, hx, hn⟩
      · exact h1
      · match hi : d.i, hx with
        | y :: t, hx =>
          simp at hx
          subst hx
          rw [hi, dVal_cons] at h
          match t with
          | [] => rfl
          | z :: t =>
            have hp : 10 ≤ 10 ^ (z :: t).length := by
              rw [List.length_cons, Nat.pow_succ]
              have : 0 < 10 ^ t.length := Nat.pow_pos (by decide)
              omega
            have : 1 * 10 ≤ y * 10 ^ (z :: t).length := Nat.mul_le_mul (by omega) hp
            omega
    match hi : d.i, hl with
    | [x], _ =>
      rw [hi, dVal_one] at h
      rw [h]
      decide +kernel
  · intro h
    have : d.i = [1] := dStr_inj hd.di (by intro x hx; simp at hx; omega) (by
      apply ByteArray.ext
      apply Array.ext'
      rw [← Lib.toList_data, ← Lib.toList_data, h]
      decide +kernel)
    rw [this]; rfl

set_option maxHeartbeats 4000000 in
set_option maxRecDepth 100000 in
theorem eng_walk (dn : Bool) (di df : ByteArray) (w : World) (h1 : di.size ≤ 140737488355328) (h2 : df.size ≤ 140737488355328) (hT : TabC w) :
    Calls Tryd.prog 4 #[.agg #[.bool dn, .string di, .string df]] w fun e w' => e = .returned (.bool true) ∧ Below w.heap.size w w' := by
  have DA := Lib.hid (fun wx (hx : Below w.heap.size w wx) => cawake_any wx (hT.keep hx))
  have DE := Lib.hid (fun wx => english_any wx)
  have hb0 : Below w.heap.size w (w.alloc (.cells #[.bool dn, .string di, .string df] 27)) := (Below.refl _ w).alloc (Nat.le_refl _) _
  have C0 := Lib.hid (one_box w (.bool dn) (.string di) (.string df) 27).2.1
  have HB0 := Lib.hid hb0
  have z0 : w.heap.size < (w.alloc (.cells #[.bool dn, .string di, .string df] 27)).heap.size := by simp
  clear hb0 hT
  have HP := Lib.hid (fun B wx hS => pick_english dn di df h1 h2 B wx hS)
  have HC := Lib.hid (fun wx => check_any dn di df wx h1 h2)
  go_enter Tryd.func4, Tryd.ntmps4
  go_wp2_with fail
  generalize w.alloc (.cells #[.bool dn, .string di, .string df] 27) = W0 at *
  (with_reducible refine (DA.out _ HB0.out).mono ?_)
  rintro e w1 ⟨rfl, hb1⟩
  have H1 := Lib.hid (HB0.out.trans (hb1.mono HB0.out.size))
  have C1 := Lib.hid (C0.out.keep hb1 z0)
  have z1 : w.heap.size < w1.heap.size := Nat.lt_of_lt_of_le z0 hb1.size
  clear hb1
  obtain ⟨x0, x1, x2⟩ := C1.out
  go_wp2_with fail
  go_region_held3 (fun w' => w'.cell? ⟨w.heap.size, 0, none⟩ = some (.bool dn) ∧ w'.cell? ⟨w.heap.size, 1, none⟩ = some (.string di) ∧ w'.cell? ⟨w.heap.size, 2, none⟩ = some (.string df))
    (first
      | (with_reducible exact ⟨x0, x1, x2⟩)
      | (with_reducible exact ⟨(drew_cell _ _).trans x0, (drew_cell _ _).trans x1, (drew_cell _ _).trans x2⟩)
      | (have t := C1.out.keep hA z1; obtain ⟨t0, t1, t2⟩ := t; with_reducible exact ⟨t0, t1, t2⟩)
      | (have t := C1.out.keep hP z1; obtain ⟨t0, t1, t2⟩ := t; with_reducible exact ⟨t0, t1, t2⟩))
    (first
      | (go_at_call 12; (with_reducible refine (DE.out _).mono ?_); rintro e wA ⟨rfl, hbA, -, hSA⟩; have hA : Below w1.heap.size w1 wA := undrew hbA; have KK := HP.out _ _ (show SetG wA (some ⟨w1.heap.size + 5, 0, none⟩) 2 (enS w1.heap.size) from hSA); obtain ⟨a, c, K, HK⟩ := KK)
      | (go_at_call 11; (with_reducible refine K.mono ?_); rintro e wP ⟨rfl, hbP⟩; have hP : Below w1.heap.size w1 wP := hA.trans (hbP.mono hA.size)))
  have H3 := Lib.hid (H1.out.trans (hP.mono H1.out.size))
  have C3 := Lib.hid (C1.out.keep hP z1)
  have HKK := Lib.hid HK
  clear K HK hA hP x0 x1 x2
  rename World => wP
  obtain ⟨x0, x1, x2⟩ := C3.out
  rcases HKK.out with ⟨hq, rfl, rfl⟩ | ⟨rfl, d, hd, rfl, rfl, rfl, ha⟩
  · have ec := ck_bad hq
    rw [ec] at HC
    clear hq ec
    go_wp2_with fail
    (with_reducible refine (HC.out _).mono ?_)
    rintro e w4 ⟨rfl, hb4⟩
    have H4 := Lib.hid (H3.out.trans (hb4.mono H3.out.size))
    clear hb4
    go_wp2
    go_ret
    exact ⟨rfl, H4.out⟩
  · by_cases q1 : dVal d.i = 1
    · have i1 := (one_digits hd).1 q1
      have ei : ((dStr d.i).toList == [49]) = true := by rw [i1]; rfl
      by_cases q2 : d.f.length = 0
      · have hf : d.f = [] := List.eq_nil_of_length_eq_zero q2
        have ef : (dStr d.f).toList = [] := toList_nil.2 (by rw [dStr_size]; exact q2)
        have ef2 : (dStr d.f).toList.isEmpty = true := by rw [ef]; rfl
        rw [if_pos ⟨q1, q2⟩] at ha
        subst ha
        clear q1 i1 q2 hf hd HKK
        go_wp2
        go_ret
        exact ⟨rfl, H3.out⟩
      · have ef : ¬ (dStr d.f).toList = [] := fun h => q2 (by have := toList_nil.1 h; rwa [dStr_size] at this)
        have ef2 : (dStr d.f).toList.isEmpty = false := by simpa using ef
        rw [if_neg (fun h => q2 h.2)] at ha
        subst ha
        clear q1 i1 q2 hd HKK
        go_wp2
        go_ret
        exact ⟨rfl, H3.out⟩
    · have i1 : ¬ (dStr d.i).toList = [49] := fun h => q1 ((one_digits hd).2 h)
      have ei : ((dStr d.i).toList == [49]) = false := beq_eq_false_iff_ne.2 i1
      rw [if_neg (fun h => q1 h.1)] at ha
      subst ha
      clear q1 hd HKK
      go_wp2
      go_ret
      exact ⟨rfl, H3.out⟩
end Go.Proofs.YtebbmelmifffgabDoor
