/- Structs in blocks of the call's own; which decimals may be; Check of two. -/
import Derived.Test.YtmggdnnffdaffaaDoorDScale
namespace Go.Proofs.YtmggdnnffdaffaaDoor
open Go.RowKit

theorem one_box (w : World) (a0 a1 a2 : Value) (t : TypeId) : w.heap.size + 1 ≤ (w.alloc (.cells #[a0, a1, a2] t)).heap.size ∧ Cells3 (w.alloc (.cells #[a0, a1, a2] t)) w.heap.size a0 a1 a2 ∧ ∀ i, (w.alloc (.cells #[a0, a1, a2] t)).frozen? ⟨w.heap.size, i, none⟩ = false :=
  ⟨by simp, ⟨by simp, by simp, by simp⟩, fun i => by simp⟩
theorem two_boxes (w : World) (a0 a1 a2 b0 b1 b2 : Value) (t : TypeId) :
    w.heap.size + 2 ≤ ((w.alloc (.cells #[a0, a1, a2] t)).alloc (.cells #[b0, b1, b2] t)).heap.size ∧ Cells3 ((w.alloc (.cells #[a0, a1, a2] t)).alloc (.cells #[b0, b1, b2] t)) w.heap.size a0 a1 a2 ∧
      Cells3 ((w.alloc (.cells #[a0, a1, a2] t)).alloc (.cells #[b0, b1, b2] t)) (w.heap.size + 1) b0 b1 b2 ∧ ∀ i, ((w.alloc (.cells #[a0, a1, a2] t)).alloc (.cells #[b0, b1, b2] t)).frozen? ⟨w.heap.size + 1, i, none⟩ = false := by
  have h1 := one_box w a0 a1 a2 t
  have hs : (w.alloc (.cells #[a0, a1, a2] t)).heap.size = w.heap.size + 1 := by simp
  have h2 := one_box (w.alloc (.cells #[a0, a1, a2] t)) b0 b1 b2 t
  rw [hs] at h2
  exact ⟨by simp, h1.2.1.keep ((Below.refl _ _).alloc (Nat.le_refl _) _) (by simp), h2.2.1, h2.2.2⟩
theorem three_boxes (w : World) (a0 a1 a2 b0 b1 b2 r0 r1 r2 : Value) (t : TypeId) :
    w.heap.size + 3 ≤ (((w.alloc (.cells #[a0, a1, a2] t)).alloc (.cells #[b0, b1, b2] t)).alloc (.cells #[r0, r1, r2] t)).heap.size ∧ Cells3 (((w.alloc (.cells #[a0, a1, a2] t)).alloc (.cells #[b0, b1, b2] t)).alloc (.cells #[r0, r1, r2] t)) w.heap.size a0 a1 a2 ∧
      Cells3 (((w.alloc (.cells #[a0, a1, a2] t)).alloc (.cells #[b0, b1, b2] t)).alloc (.cells #[r0, r1, r2] t)) (w.heap.size + 1) b0 b1 b2 ∧ Cells3 (((w.alloc (.cells #[a0, a1, a2] t)).alloc (.cells #[b0, b1, b2] t)).alloc (.cells #[r0, r1, r2] t)) (w.heap.size + 2) r0 r1 r2 ∧
      ∀ i, (((w.alloc (.cells #[a0, a1, a2] t)).alloc (.cells #[b0, b1, b2] t)).alloc (.cells #[r0, r1, r2] t)).frozen? ⟨w.heap.size + 2, i, none⟩ = false := by
  have h1 := two_boxes w a0 a1 a2 b0 b1 b2 t
  have hs : ((w.alloc (.cells #[a0, a1, a2] t)).alloc (.cells #[b0, b1, b2] t)).heap.size = w.heap.size + 2 := by simp
  have h2 := one_box ((w.alloc (.cells #[a0, a1, a2] t)).alloc (.cells #[b0, b1, b2] t)) r0 r1 r2 t
  rw [hs] at h2
  have hb : Below ((w.alloc (.cells #[a0, a1, a2] t)).alloc (.cells #[b0, b1, b2] t)).heap.size ((w.alloc (.cells #[a0, a1, a2] t)).alloc (.cells #[b0, b1, b2] t)) (((w.alloc (.cells #[a0, a1, a2] t)).alloc (.cells #[b0, b1, b2] t)).alloc (.cells #[r0, r1, r2] t)) := (Below.refl _ _).alloc (Nat.le_refl _) _
  exact ⟨by simp, h1.2.1.keep hb (by rw [hs]; omega), h1.2.2.1.keep hb (by rw [hs]; omega), h2.2.1, h2.2.2⟩
theorem below_two (w : World) (o1 o2 : Obj) : Below w.heap.size w ((w.alloc o1).alloc o2) := ((Below.refl _ w).alloc (Nat.le_refl _) _).alloc (by simp) _
theorem below_three (w : World) (o1 o2 o3 : Obj) : Below w.heap.size w (((w.alloc o1).alloc o2).alloc o3) := (((Below.refl _ w).alloc (Nat.le_refl _) _).alloc (by simp) _).alloc (by simp; omega) _
theorem frozen_keep {W w' : World} {b : Nat} (h : ∀ i, W.frozen? ⟨b, i, none⟩ = false) (hb : Below W.heap.size W w') (hlt : b < W.heap.size) : ∀ i, w'.frozen? ⟨b, i, none⟩ = false :=
  fun i => (hb.frozen (p := ⟨b, i, none⟩) hlt).trans (h i)

/-- Whether it may be, as bytes. -/
theorem okB_list (n : Bool) (i f : ByteArray) : okB n i f = ckB ⟨n, i.data.toList, f.data.toList⟩ := by
  have e1 : i.data.toList.length = i.size := by simp
  have e2 : f.data.toList.length = f.size := by simp
  have e3 : (decide (byteN i 0 = 48) && decide (1 < i.size)) = (decide (1 < i.data.toList.length) && all0 (i.data.toList.take 1)) := by
    rw [e1, Bool.and_comm]
    by_cases h : 1 < i.size
    · have hl : 0 < i.data.toList.length := by rw [e1]; omega
      have : i.data.toList.take 1 = [i.data.toList[0]] := by
        rw [List.take_succ_eq_append_getElem hl]
        rfl
      rw [this, ← byteN_list i 0 hl]
      simp [all0]
    · rw [decide_eq_false h, Bool.false_and, Bool.false_and]
  unfold okB formB ckB
  rw [dgB_list, dgB_list, zrB_list, zrB_list, e3]
  simp only [e1, e2]
  rw [Bool.eq_iff_iff]
  simp only [Bool.and_eq_true, Bool.not_eq_true', decide_eq_true_eq]
  constructor
  · rintro ⟨h1, ⟨⟨⟨h2, h3⟩, h4⟩, h5⟩, h6⟩
    exact ⟨⟨⟨⟨⟨by omega, h1⟩, h3⟩, h4⟩, h5⟩, h6⟩
  · rintro ⟨⟨⟨⟨⟨h2, h1⟩, h3⟩, h4⟩, h5⟩, h6⟩
    exact ⟨h1, ⟨⟨⟨by omega, h3⟩, h4⟩, h5⟩, h6⟩
theorem str_of {s : ByteArray} {l : List Nat} (h : s.data.toList = dB l) : s = dStr l := by
  apply ByteArray.ext
  apply Array.ext'
  rw [h]
  unfold dStr dB
  simp
theorem ok_cases {n : Bool} {i f : ByteArray} (h : okB n i f = true) : ∃ d : Dc, d.Ok ∧ n = d.neg ∧ i = dStr d.i ∧ f = dStr d.f := by
  rw [okB_list] at h
  obtain ⟨d, hd, e⟩ := (ck_iff _).1 h
  unfold Dc.rw at e
  simp only [Rw.mk.injEq] at e
  exact ⟨d, hd, e.1, str_of e.2.1, str_of e.2.2⟩
theorem ok_of {d : Dc} (h : d.Ok) : okB d.neg (dStr d.i) (dStr d.f) = true := by
  rw [okB_list, dStr_toList, dStr_toList]
  exact (ck_iff _).2 ⟨d, h, rfl⟩
theorem ck_ok {d : Dc} (h : d.Ok) : ckE d.neg (dStr d.i) (dStr d.f) = 0 := if_pos (ok_of h)
theorem ck_bad {n : Bool} {i f : ByteArray} (h : okB n i f = false) : ckE n i f = 20 := if_neg (by rw [h]; decide)
/-- The other sign. -/
def Dc.flip (d : Dc) : Dc := ⟨!d.neg, d.i, d.f⟩
theorem flip_up (d : Dc) (s : Nat) : d.flip.up s = -d.up s := by
  unfold Dc.flip Dc.up Dc.z Dc.num
  cases d.neg
  · simp [Int.neg_mul]
  · simp [Int.neg_mul]
theorem sum_flip (a b : Dc) : sumD a b.flip = subD a b := by
  unfold sumD subD
  rw [flip_up]
  rfl
theorem Dc.Fm.flip {d : Dc} (h : d.Fm) : d.flip.Fm := ⟨h.di, h.df, h.one, h.most⟩

set_option maxHeartbeats 1000000 in
set_option maxRecDepth 100000 in
theorem checkBoth_one (na nb : Bool) (ia fa ib fb : ByteArray) (w : World) (h1 : ia.size ≤ 140737488355328) (h2 : fa.size ≤ 140737488355328) (h : okB na ia fa = false) :
    Calls Tryd.prog 29 #[.agg #[.bool na, .string ia, .string fa], .agg #[.bool nb, .string ib, .string fb]] w fun e w' => e = .returned (.int .i64 20) ∧ Below w.heap.size w w' := by
  have DC := Lib.hid (fun wx => check_any na ia fa wx h1 h2)
  have q := ck_bad h
  clear h
  go_enter Tryd.func29, Tryd.ntmps29
  go_wp2_with fail
  (with_reducible refine (DC.out _).mono ?_)
  rintro e w1 ⟨rfl, hb⟩
  go_wp2
  go_ret
  exact ⟨rfl, (below_two w _ _).trans (hb.mono (by simp; omega))⟩
set_option maxHeartbeats 1000000 in
set_option maxRecDepth 100000 in
theorem checkBoth_two (na nb : Bool) (ia fa ib fb : ByteArray) (w : World) (h1 : ia.size ≤ 140737488355328) (h2 : fa.size ≤ 140737488355328) (h3 : ib.size ≤ 140737488355328) (h4 : fb.size ≤ 140737488355328) (h : okB na ia fa = true) :
    Calls Tryd.prog 29 #[.agg #[.bool na, .string ia, .string fa], .agg #[.bool nb, .string ib, .string fb]] w fun e w' => e = .returned (.int .i64 (ckE nb ib fb)) ∧ Below w.heap.size w w' := by
  have DC := Lib.hid (fun wx => check_any na ia fa wx h1 h2)
  have DD := Lib.hid (fun wx => check_any nb ib fb wx h3 h4)
  have q : ckE na ia fa = 0 := if_pos h
  clear h
  go_enter Tryd.func29, Tryd.ntmps29
  go_wp2_with fail
  obtain ⟨W2, hW2⟩ : ∃ W2, W2 = (w.alloc (.cells #[.bool na, .string ia, .string fa] 27)).alloc (.cells #[.bool nb, .string ib, .string fb] 27) := ⟨_, rfl⟩
  obtain ⟨hb2, hz2, CA, CB, _⟩ : Below w.heap.size w W2 ∧ w.heap.size + 2 ≤ W2.heap.size ∧ Cells3 W2 w.heap.size (.bool na) (.string ia) (.string fa) ∧ Cells3 W2 (w.heap.size + 1) (.bool nb) (.string ib) (.string fb) ∧ ∀ i, W2.frozen? ⟨w.heap.size + 1, i, none⟩ = false := by rw [hW2]; exact ⟨below_two w _ _, two_boxes w _ _ _ _ _ _ _⟩
  rw [← hW2]
  clear hW2
  (with_reducible refine (DC.out _).mono ?_)
  rintro e w1 ⟨rfl, hb⟩
  obtain ⟨b0, b1, b2⟩ := CB.keep hb (by omega)
  have B1 := Lib.hid (hb2.trans (hb.mono hb2.size))
  clear hb hb2
  go_wp2_with fail
  (with_reducible refine (DD.out _).mono ?_)
  rintro e w2 ⟨rfl, hb3⟩
  go_wp2
  go_ret
  exact ⟨rfl, B1.out.trans (hb3.mono B1.out.size)⟩
end Go.Proofs.YtmggdnnffdaffaaDoor
