/- split: a text taken apart at its sign and its first point. -/
import Derived.Test.YtmggdnnffdaffaaDoorDTop
namespace Go.Proofs.YtmggdnnffdaffaaDoor
open Go.RowKit
attribute [local go_sem ↓] Go.wp_at_zero Go.wp_at_succ

def dotFrom (t : ByteArray) (k : Nat) : Nat := if k < t.size then if byteN t k = 46 then k else dotFrom t (k + 1) else t.size
termination_by t.size - k
theorem dot_end {t : ByteArray} {k : Nat} (h : ¬ k < t.size) : dotFrom t k = t.size := by rw [dotFrom, if_neg h]
theorem dot_here {t : ByteArray} {k : Nat} (h : k < t.size) (hb : byteN t k = 46) : dotFrom t k = k := by rw [dotFrom, if_pos h, if_pos hb]
theorem dot_next {t : ByteArray} {k : Nat} (h : k < t.size) (hb : byteN t k ≠ 46) : dotFrom t k = dotFrom t (k + 1) := by rw [dotFrom, if_pos h, if_neg hb]
def spI (t : ByteArray) : ByteArray := t.extract 0 (dotFrom t 0)
def spF (t : ByteArray) : ByteArray := t.extract (dotFrom t 0 + 1) t.size
def spK (t : ByteArray) : Bool := decide (dotFrom t 0 = t.size ∨ dotFrom t 0 + 1 < t.size)
theorem extract_full (t : ByteArray) : t.extract 0 t.size = t := by
  apply ByteArray.ext
  apply Array.ext'
  rw [Lib.extract_data]
  simp [List.take_of_length_le]
theorem extract_none (t : ByteArray) (a b : Nat) (h : b ≤ a) : t.extract a b = ⟨#[]⟩ := by
  apply ByteArray.ext
  apply Array.ext'
  rw [Lib.extract_data]
  simp
  omega
def spN (s : ByteArray) : Bool := decide (s.size ≠ 0 ∧ byteN s 0 = 45)
def spT (s : ByteArray) : ByteArray := if spN s then s.extract 1 s.size else s
theorem far2 (W : World) (b c i : Nat) (x y : Value) (h : b ≠ c) : ((W.setCell ⟨c, 1, none⟩ x).setCell ⟨c, 2, none⟩ y).drew.cell? ⟨b, i, none⟩ = W.cell? ⟨b, i, none⟩ :=
  (World.cell?_setCell_other _ _ _ _ (fun e => h (congrArg Addr.block e).symm)).trans (World.cell?_setCell_other _ _ _ _ (fun e => h (congrArg Addr.block e).symm))

set_option maxHeartbeats 2000000 in
set_option maxRecDepth 100000 in
theorem split_minus (s : ByteArray) (w : World) (hs : s.size ≤ 65536) (h : spN s = true) :
    Calls Tryd.prog 64 #[.string s] w fun e w' => e = .returned (.tuple #[.agg #[.bool true, .string (spI (s.extract 1 s.size)), .string (spF (s.extract 1 s.size))], .bool (spK (s.extract 1 s.size))]) ∧ Below w.heap.size w w' := by
  obtain ⟨h0, h45⟩ := of_decide_eq_true h
  have n1 : ¬ s.toList = [] := fun h => h0 (toList_nil.1 h)
  have n2 : s.toList.isEmpty = false := by simpa using n1
  have hp : 0 < s.size := by omega
  rw [← byteN_at s 0 hp] at h45
  have q : ((s[0].toNat : Int) == 45) = true := by simp; omega
  obtain ⟨t, ht⟩ : ∃ t, t = s.extract 1 s.size := ⟨_, rfl⟩
  have hts : t.size = s.size - 1 := by rw [ht]; simp
  have HT := Lib.hid ht
  have HTS := Lib.hid hts
  clear h h0 h45 ht hts
  go_enter Tryd.func64, Tryd.ntmps64
  go_wp2
  obtain ⟨W2, hW2⟩ : ∃ W2, W2 = (w.alloc (.cells #[.bool false, .string ⟨#[]⟩, .string ⟨#[]⟩] 27)).alloc (.cells #[.bool true, .string t, .string ⟨#[]⟩] 27) := ⟨_, rfl⟩
  obtain ⟨hb2, hz2, CR, CD, FD⟩ : Below w.heap.size w W2 ∧ w.heap.size + 2 ≤ W2.heap.size ∧ Cells3 W2 w.heap.size (.bool false) (.string ⟨#[]⟩) (.string ⟨#[]⟩) ∧ Cells3 W2 (w.heap.size + 1) (.bool true) (.string t) (.string ⟨#[]⟩) ∧ ∀ i, W2.frozen? ⟨w.heap.size + 1, i, none⟩ = false := by rw [hW2]; exact ⟨below_two w _ _, two_boxes w _ _ _ _ _ _ _⟩
  have FR : ∀ i, W2.frozen? ⟨w.heap.size, i, none⟩ = false := by
    rw [hW2]
    exact frozen_keep (one_box w (.bool false) (.string ⟨#[]⟩) (.string ⟨#[]⟩) 27).2.2 ((Below.refl _ _).alloc (Nat.le_refl _) _) (by simp)
  rw [← HT.out, ← HTS.out, ← hW2]

  clear hW2
  obtain ⟨r0, r1, r2⟩ := CR
  obtain ⟨d0, d1, d2⟩ := CD
  have hsz : t.size ≤ 65536 := by have := HTS.out; omega
  have B2 := Lib.hid hb2
  clear hb2
  go_loop [5, 21] (fun _ i => ∃ k : Nat, i = .int .i64 k ∧ k ≤ t.size ∧ dotFrom t k = dotFrom t 0) (fun _ i => t.size - (intOf i).toNat)
  case atStart => exact ⟨0, rfl, by omega, rfl⟩
  case round =>
    obtain ⟨k, rfl, hk, hE⟩ := hrel
    have HE := Lib.hid hE
    clear hE
    by_cases hlt : k < t.size
    · have HK := Lib.hid (byteN_at t k hlt)
      have i0 : (0 : Int) ≤ (k : Int) := by omega
      have i1 : (k : Int) ≤ (t.size : Int) := by omega
      have i2 : (k : Int) + 1 ≤ (t.size : Int) := by omega
      have i3 : ((k : Int) + 1).toNat = k + 1 := by omega
      by_cases h46 : t[k].toNat = 46
      · have q46 : ((t[k].toNat : Int) == 46) = true := by simp; omega
        have DK : Hid (dotFrom t 0 = k) := by show _ = _; rw [← HE.out]; exact dot_here hlt (by rw [← HK.out]; exact h46)
        clear h46
        obtain ⟨S1, hS1⟩ : ∃ S1, S1 = t.extract 0 k := ⟨_, rfl⟩
        obtain ⟨S2, hS2⟩ : ∃ S2, S2 = t.extract (k + 1) t.size := ⟨_, rfl⟩
        by_cases hlast : k + 1 < t.size
        · have m1 : ¬ S2.toList = [] := fun h => by have := toList_nil.1 h; rw [hS2] at this; simp at this; omega
          have m2 : S2.toList.isEmpty = false := by simpa using m1
          have HS1 := Lib.hid hS1
          have HS2 := Lib.hid hS2
          have KK : Hid (spK t = true) := by show _ = _; unfold spK; rw [DK.out]; exact decide_eq_true (.inr hlast)
          go_wp2
          go_region
          obtain ⟨W5, hW5⟩ : ∃ W5, W5 = ((W2.setCell ⟨w.heap.size + 1, 1, none⟩ (.string (t.extract 0 k))).setCell ⟨w.heap.size + 1, 2, none⟩ (.string (t.extract (k + 1) t.size))).drew := ⟨_, rfl⟩
          have b0 : W5.cell? ⟨w.heap.size + 1, 0, none⟩ = some (.bool true) := by rw [hW5]; exact cell_set_far _ _ _ _ _ _ (by decide) (cell_set_far _ _ _ _ _ _ (by decide) d0)
          have b1 : W5.cell? ⟨w.heap.size + 1, 1, none⟩ = some (.string S1) := by rw [hW5, hS1]; exact cell_set_far _ _ _ _ _ _ (by decide) (cell_set_same _ _ _ _ d1)
          have b2 : W5.cell? ⟨w.heap.size + 1, 2, none⟩ = some (.string S2) := by rw [hW5, hS2]; exact cell_set_same _ _ _ _ (cell_set_far _ _ _ _ _ _ (by decide) d2)
          have a0 : W5.cell? ⟨w.heap.size, 0, none⟩ = some (.bool false) := by rw [hW5]; exact (far2 _ _ _ _ _ _ (by omega)).trans r0
          have a1 : W5.cell? ⟨w.heap.size, 1, none⟩ = some (.string ⟨#[]⟩) := by rw [hW5]; exact (far2 _ _ _ _ _ _ (by omega)).trans r1
          have a2 : W5.cell? ⟨w.heap.size, 2, none⟩ = some (.string ⟨#[]⟩) := by rw [hW5]; exact (far2 _ _ _ _ _ _ (by omega)).trans r2
          have z0 : ∀ i, W5.frozen? ⟨w.heap.size, i, none⟩ = false := by rw [hW5]; intro i; simpa using FR i
          have B5 : Below w.heap.size w W5 := by rw [hW5]; exact drew1 ((B2.out.setCell (p := ⟨w.heap.size + 1, 1, none⟩) (Nat.le_succ _) _).setCell (p := ⟨w.heap.size + 1, 2, none⟩) (Nat.le_succ _) _)
          rw [← hW5, ← hS1, ← hS2]
          have HB5 := Lib.hid B5
          clear hW5 hS1 hS2 B5 r0 r1 r2 d0 d1 d2 FR FD hz2
          obtain ⟨e0, e1, e2⟩ := res_cells a0 a1 a2 (.bool true) (.string S1) (.string S2)
          go_wp2
          go_region
          go_wp2
          exact bodyPost_ret (v := .tuple #[.agg #[.bool true, .string S1, .string S2], .bool true]) (by simp [results, Tryd.results64, go_sem, e0, e1, e2]) rfl ⟨by rw [← HT.out, KK.out, show spI t = S1 by unfold spI; rw [DK.out, HS1.out], show spF t = S2 by unfold spF; rw [DK.out, HS2.out]], drew1 (res_below HB5.out (Nat.le_refl _) _ _ _)⟩
        · have m1 : S2.toList = [] := toList_nil.2 (by rw [hS2]; simp; omega)
          have HS1 := Lib.hid hS1
          have HS2 := Lib.hid hS2
          have KK : Hid (spK t = false) := by show _ = _; unfold spK; rw [DK.out]; exact decide_eq_false (by omega)
          go_wp2
          go_region
          obtain ⟨W5, hW5⟩ : ∃ W5, W5 = ((W2.setCell ⟨w.heap.size + 1, 1, none⟩ (.string (t.extract 0 k))).setCell ⟨w.heap.size + 1, 2, none⟩ (.string (t.extract (k + 1) t.size))).drew := ⟨_, rfl⟩
          have b0 : W5.cell? ⟨w.heap.size + 1, 0, none⟩ = some (.bool true) := by rw [hW5]; exact cell_set_far _ _ _ _ _ _ (by decide) (cell_set_far _ _ _ _ _ _ (by decide) d0)
          have b1 : W5.cell? ⟨w.heap.size + 1, 1, none⟩ = some (.string S1) := by rw [hW5, hS1]; exact cell_set_far _ _ _ _ _ _ (by decide) (cell_set_same _ _ _ _ d1)
          have b2 : W5.cell? ⟨w.heap.size + 1, 2, none⟩ = some (.string S2) := by rw [hW5, hS2]; exact cell_set_same _ _ _ _ (cell_set_far _ _ _ _ _ _ (by decide) d2)
          have a0 : W5.cell? ⟨w.heap.size, 0, none⟩ = some (.bool false) := by rw [hW5]; exact (far2 _ _ _ _ _ _ (by omega)).trans r0
          have a1 : W5.cell? ⟨w.heap.size, 1, none⟩ = some (.string ⟨#[]⟩) := by rw [hW5]; exact (far2 _ _ _ _ _ _ (by omega)).trans r1
          have a2 : W5.cell? ⟨w.heap.size, 2, none⟩ = some (.string ⟨#[]⟩) := by rw [hW5]; exact (far2 _ _ _ _ _ _ (by omega)).trans r2
          have z0 : ∀ i, W5.frozen? ⟨w.heap.size, i, none⟩ = false := by rw [hW5]; intro i; simpa using FR i
          have B5 : Below w.heap.size w W5 := by rw [hW5]; exact drew1 ((B2.out.setCell (p := ⟨w.heap.size + 1, 1, none⟩) (Nat.le_succ _) _).setCell (p := ⟨w.heap.size + 1, 2, none⟩) (Nat.le_succ _) _)
          rw [← hW5, ← hS1, ← hS2]
          have HB5 := Lib.hid B5
          clear hW5 hS1 hS2 B5 r0 r1 r2 d0 d1 d2 FR FD hz2
          obtain ⟨e0, e1, e2⟩ := res_cells a0 a1 a2 (.bool true) (.string S1) (.string S2)
          go_wp2
          go_region
          go_wp2
          exact bodyPost_ret (v := .tuple #[.agg #[.bool true, .string S1, .string S2], .bool false]) (by simp [results, Tryd.results64, go_sem, e0, e1, e2]) rfl ⟨by rw [← HT.out, KK.out, show spI t = S1 by unfold spI; rw [DK.out, HS1.out], show spF t = S2 by unfold spF; rw [DK.out, HS2.out]], drew1 (res_below HB5.out (Nat.le_refl _) _ _ _)⟩
      · have q46 : ((t[k].toNat : Int) == 46) = false := by simp; omega
        have H46 := Lib.hid h46
        clear h46
        go_wp2
        go_round
        case rel => exact ⟨k + 1, by go_num, by omega, by rw [← HE.out]; exact (dot_next hlt (by rw [← HK.out]; exact H46.out)).symm⟩
        case measure => simp [intOf]; omega
    · have DK : Hid (dotFrom t 0 = t.size) := by show _ = _; rw [← HE.out]; exact dot_end hlt
      obtain ⟨e0, e1, e2⟩ := res_cells r0 r1 r2 (.bool true) (.string t) (.string ⟨#[]⟩)
      go_wp2
      exact bodyPost_ret (v := .tuple #[.agg #[.bool true, .string t, .string ⟨#[]⟩], .bool true]) (by simp [results, Tryd.results64, go_sem, e0, e1, e2]) rfl ⟨by rw [← HT.out]; unfold spI spF spK; rw [DK.out, extract_full, extract_none _ _ _ (by omega), decide_eq_true (.inl rfl)], res_below B2.out (Nat.le_refl _) _ _ _⟩

set_option maxHeartbeats 2000000 in
set_option maxRecDepth 100000 in
theorem split_plain (s : ByteArray) (w : World) (hs : s.size ≤ 65536) (h : spN s = false) :
    Calls Tryd.prog 64 #[.string s] w fun e w' => e = .returned (.tuple #[.agg #[.bool false, .string (spI s), .string (spF s)], .bool (spK s)]) ∧ Below w.heap.size w w' := by
  have hq := of_decide_eq_false h
  clear h
  by_cases h0 : s.size = 0
  · have n1 : s.toList = [] := toList_nil.2 h0
    have hs0 : s.size ≤ 0 := by omega
    clear h0 hq
    go_enter Tryd.func64, Tryd.ntmps64
    go_wp2
    obtain ⟨W2, hW2⟩ : ∃ W2, W2 = (w.alloc (.cells #[.bool false, .string ⟨#[]⟩, .string ⟨#[]⟩] 27)).alloc (.cells #[.bool false, .string s, .string ⟨#[]⟩] 27) := ⟨_, rfl⟩
    obtain ⟨hb2, hz2, CR, CD, FD⟩ : Below w.heap.size w W2 ∧ w.heap.size + 2 ≤ W2.heap.size ∧ Cells3 W2 w.heap.size (.bool false) (.string ⟨#[]⟩) (.string ⟨#[]⟩) ∧ Cells3 W2 (w.heap.size + 1) (.bool false) (.string s) (.string ⟨#[]⟩) ∧ ∀ i, W2.frozen? ⟨w.heap.size + 1, i, none⟩ = false := by rw [hW2]; exact ⟨below_two w _ _, two_boxes w _ _ _ _ _ _ _⟩
    have FR : ∀ i, W2.frozen? ⟨w.heap.size, i, none⟩ = false := by
      rw [hW2]
      exact frozen_keep (one_box w (.bool false) (.string ⟨#[]⟩) (.string ⟨#[]⟩) 27).2.2 ((Below.refl _ _).alloc (Nat.le_refl _) _) (by simp)
    rw [← hW2]
    skip
    clear hW2
    obtain ⟨r0, r1, r2⟩ := CR
    obtain ⟨d0, d1, d2⟩ := CD
    have hsz : s.size ≤ 65536 := by exact hs
    have B2 := Lib.hid hb2
    clear hb2
    go_loop [5, 21] (fun _ i => ∃ k : Nat, i = .int .i64 k ∧ k ≤ s.size ∧ dotFrom s k = dotFrom s 0) (fun _ i => s.size - (intOf i).toNat)
    case atStart => exact ⟨0, rfl, by omega, rfl⟩
    case round =>
      obtain ⟨k, rfl, hk, hE⟩ := hrel
      have HE := Lib.hid hE
      clear hE
      by_cases hlt : k < s.size
      · exact absurd hlt (by omega)
      · have DK : Hid (dotFrom s 0 = s.size) := by show _ = _; rw [← HE.out]; exact dot_end hlt
        obtain ⟨e0, e1, e2⟩ := res_cells r0 r1 r2 (.bool false) (.string s) (.string ⟨#[]⟩)
        go_wp2
        exact bodyPost_ret (v := .tuple #[.agg #[.bool false, .string s, .string ⟨#[]⟩], .bool true]) (by simp [results, Tryd.results64, go_sem, e0, e1, e2]) rfl ⟨by unfold spI spF spK; rw [DK.out, extract_full, extract_none _ _ _ (by omega), decide_eq_true (.inl rfl)], res_below B2.out (Nat.le_refl _) _ _ _⟩
  · have n1 : ¬ s.toList = [] := fun h => h0 (toList_nil.1 h)
    have n2 : s.toList.isEmpty = false := by simpa using n1
    have hp : 0 < s.size := by omega
    have h45 : s[0].toNat ≠ 45 := fun h => hq ⟨h0, by rw [← byteN_at s 0 hp]; exact h⟩
    have q : ((s[0].toNat : Int) == 45) = false := by simp; omega
    clear h0 hq h45
    go_enter Tryd.func64, Tryd.ntmps64
    go_wp2
    obtain ⟨W2, hW2⟩ : ∃ W2, W2 = (w.alloc (.cells #[.bool false, .string ⟨#[]⟩, .string ⟨#[]⟩] 27)).alloc (.cells #[.bool false, .string s, .string ⟨#[]⟩] 27) := ⟨_, rfl⟩
    obtain ⟨hb2, hz2, CR, CD, FD⟩ : Below w.heap.size w W2 ∧ w.heap.size + 2 ≤ W2.heap.size ∧ Cells3 W2 w.heap.size (.bool false) (.string ⟨#[]⟩) (.string ⟨#[]⟩) ∧ Cells3 W2 (w.heap.size + 1) (.bool false) (.string s) (.string ⟨#[]⟩) ∧ ∀ i, W2.frozen? ⟨w.heap.size + 1, i, none⟩ = false := by rw [hW2]; exact ⟨below_two w _ _, two_boxes w _ _ _ _ _ _ _⟩
    have FR : ∀ i, W2.frozen? ⟨w.heap.size, i, none⟩ = false := by
      rw [hW2]
      exact frozen_keep (one_box w (.bool false) (.string ⟨#[]⟩) (.string ⟨#[]⟩) 27).2.2 ((Below.refl _ _).alloc (Nat.le_refl _) _) (by simp)
    rw [← hW2]
    skip
    clear hW2
    obtain ⟨r0, r1, r2⟩ := CR
    obtain ⟨d0, d1, d2⟩ := CD
    have hsz : s.size ≤ 65536 := by exact hs
    have B2 := Lib.hid hb2
    clear hb2
    go_loop [5, 21] (fun _ i => ∃ k : Nat, i = .int .i64 k ∧ k ≤ s.size ∧ dotFrom s k = dotFrom s 0) (fun _ i => s.size - (intOf i).toNat)
    case atStart => exact ⟨0, rfl, by omega, rfl⟩
    case round =>
      obtain ⟨k, rfl, hk, hE⟩ := hrel
      have HE := Lib.hid hE
      clear hE
      by_cases hlt : k < s.size
      · have HK := Lib.hid (byteN_at s k hlt)
        have i0 : (0 : Int) ≤ (k : Int) := by omega
        have i1 : (k : Int) ≤ (s.size : Int) := by omega
        have i2 : (k : Int) + 1 ≤ (s.size : Int) := by omega
        have i3 : ((k : Int) + 1).toNat = k + 1 := by omega
        by_cases h46 : s[k].toNat = 46
        · have q46 : ((s[k].toNat : Int) == 46) = true := by simp; omega
          have DK : Hid (dotFrom s 0 = k) := by show _ = _; rw [← HE.out]; exact dot_here hlt (by rw [← HK.out]; exact h46)
          clear h46
          obtain ⟨S1, hS1⟩ : ∃ S1, S1 = s.extract 0 k := ⟨_, rfl⟩
          obtain ⟨S2, hS2⟩ : ∃ S2, S2 = s.extract (k + 1) s.size := ⟨_, rfl⟩
          by_cases hlast : k + 1 < s.size
          · have m1 : ¬ S2.toList = [] := fun h => by have := toList_nil.1 h; rw [hS2] at this; simp at this; omega
            have m2 : S2.toList.isEmpty = false := by simpa using m1
            have HS1 := Lib.hid hS1
            have HS2 := Lib.hid hS2
            have KK : Hid (spK s = true) := by show _ = _; unfold spK; rw [DK.out]; exact decide_eq_true (.inr hlast)
            go_wp2
            go_region
            obtain ⟨W5, hW5⟩ : ∃ W5, W5 = ((W2.setCell ⟨w.heap.size + 1, 1, none⟩ (.string (s.extract 0 k))).setCell ⟨w.heap.size + 1, 2, none⟩ (.string (s.extract (k + 1) s.size))).drew := ⟨_, rfl⟩
            have b0 : W5.cell? ⟨w.heap.size + 1, 0, none⟩ = some (.bool false) := by rw [hW5]; exact cell_set_far _ _ _ _ _ _ (by decide) (cell_set_far _ _ _ _ _ _ (by decide) d0)
            have b1 : W5.cell? ⟨w.heap.size + 1, 1, none⟩ = some (.string S1) := by rw [hW5, hS1]; exact cell_set_far _ _ _ _ _ _ (by decide) (cell_set_same _ _ _ _ d1)
            have b2 : W5.cell? ⟨w.heap.size + 1, 2, none⟩ = some (.string S2) := by rw [hW5, hS2]; exact cell_set_same _ _ _ _ (cell_set_far _ _ _ _ _ _ (by decide) d2)
            have a0 : W5.cell? ⟨w.heap.size, 0, none⟩ = some (.bool false) := by rw [hW5]; exact (far2 _ _ _ _ _ _ (by omega)).trans r0
            have a1 : W5.cell? ⟨w.heap.size, 1, none⟩ = some (.string ⟨#[]⟩) := by rw [hW5]; exact (far2 _ _ _ _ _ _ (by omega)).trans r1
            have a2 : W5.cell? ⟨w.heap.size, 2, none⟩ = some (.string ⟨#[]⟩) := by rw [hW5]; exact (far2 _ _ _ _ _ _ (by omega)).trans r2
            have z0 : ∀ i, W5.frozen? ⟨w.heap.size, i, none⟩ = false := by rw [hW5]; intro i; simpa using FR i
            have B5 : Below w.heap.size w W5 := by rw [hW5]; exact drew1 ((B2.out.setCell (p := ⟨w.heap.size + 1, 1, none⟩) (Nat.le_succ _) _).setCell (p := ⟨w.heap.size + 1, 2, none⟩) (Nat.le_succ _) _)
            rw [← hW5, ← hS1, ← hS2]
            have HB5 := Lib.hid B5
            clear hW5 hS1 hS2 B5 r0 r1 r2 d0 d1 d2 FR FD hz2
            obtain ⟨e0, e1, e2⟩ := res_cells a0 a1 a2 (.bool false) (.string S1) (.string S2)
            go_wp2
            go_region
            go_wp2
            exact bodyPost_ret (v := .tuple #[.agg #[.bool false, .string S1, .string S2], .bool true]) (by simp [results, Tryd.results64, go_sem, e0, e1, e2]) rfl ⟨by rw [KK.out, show spI s = S1 by unfold spI; rw [DK.out, HS1.out], show spF s = S2 by unfold spF; rw [DK.out, HS2.out]], drew1 (res_below HB5.out (Nat.le_refl _) _ _ _)⟩
          · have m1 : S2.toList = [] := toList_nil.2 (by rw [hS2]; simp; omega)
            have HS1 := Lib.hid hS1
            have HS2 := Lib.hid hS2
            have KK : Hid (spK s = false) := by show _ = _; unfold spK; rw [DK.out]; exact decide_eq_false (by omega)
            go_wp2
            go_region
            obtain ⟨W5, hW5⟩ : ∃ W5, W5 = ((W2.setCell ⟨w.heap.size + 1, 1, none⟩ (.string (s.extract 0 k))).setCell ⟨w.heap.size + 1, 2, none⟩ (.string (s.extract (k + 1) s.size))).drew := ⟨_, rfl⟩
            have b0 : W5.cell? ⟨w.heap.size + 1, 0, none⟩ = some (.bool false) := by rw [hW5]; exact cell_set_far _ _ _ _ _ _ (by decide) (cell_set_far _ _ _ _ _ _ (by decide) d0)
            have b1 : W5.cell? ⟨w.heap.size + 1, 1, none⟩ = some (.string S1) := by rw [hW5, hS1]; exact cell_set_far _ _ _ _ _ _ (by decide) (cell_set_same _ _ _ _ d1)
            have b2 : W5.cell? ⟨w.heap.size + 1, 2, none⟩ = some (.string S2) := by rw [hW5, hS2]; exact cell_set_same _ _ _ _ (cell_set_far _ _ _ _ _ _ (by decide) d2)
            have a0 : W5.cell? ⟨w.heap.size, 0, none⟩ = some (.bool false) := by rw [hW5]; exact (far2 _ _ _ _ _ _ (by omega)).trans r0
            have a1 : W5.cell? ⟨w.heap.size, 1, none⟩ = some (.string ⟨#[]⟩) := by rw [hW5]; exact (far2 _ _ _ _ _ _ (by omega)).trans r1
            have a2 : W5.cell? ⟨w.heap.size, 2, none⟩ = some (.string ⟨#[]⟩) := by rw [hW5]; exact (far2 _ _ _ _ _ _ (by omega)).trans r2
            have z0 : ∀ i, W5.frozen? ⟨w.heap.size, i, none⟩ = false := by rw [hW5]; intro i; simpa using FR i
            have B5 : Below w.heap.size w W5 := by rw [hW5]; exact drew1 ((B2.out.setCell (p := ⟨w.heap.size + 1, 1, none⟩) (Nat.le_succ _) _).setCell (p := ⟨w.heap.size + 1, 2, none⟩) (Nat.le_succ _) _)
            rw [← hW5, ← hS1, ← hS2]
            have HB5 := Lib.hid B5
            clear hW5 hS1 hS2 B5 r0 r1 r2 d0 d1 d2 FR FD hz2
            obtain ⟨e0, e1, e2⟩ := res_cells a0 a1 a2 (.bool false) (.string S1) (.string S2)
            go_wp2
            go_region
            go_wp2
            exact bodyPost_ret (v := .tuple #[.agg #[.bool false, .string S1, .string S2], .bool false]) (by simp [results, Tryd.results64, go_sem, e0, e1, e2]) rfl ⟨by rw [KK.out, show spI s = S1 by unfold spI; rw [DK.out, HS1.out], show spF s = S2 by unfold spF; rw [DK.out, HS2.out]], drew1 (res_below HB5.out (Nat.le_refl _) _ _ _)⟩
        · have q46 : ((s[k].toNat : Int) == 46) = false := by simp; omega
          have H46 := Lib.hid h46
          clear h46
          go_wp2
          go_round
          case rel => exact ⟨k + 1, by go_num, by omega, by rw [← HE.out]; exact (dot_next hlt (by rw [← HK.out]; exact H46.out)).symm⟩
          case measure => simp [intOf]; omega
      · have DK : Hid (dotFrom s 0 = s.size) := by show _ = _; rw [← HE.out]; exact dot_end hlt
        obtain ⟨e0, e1, e2⟩ := res_cells r0 r1 r2 (.bool false) (.string s) (.string ⟨#[]⟩)
        go_wp2
        exact bodyPost_ret (v := .tuple #[.agg #[.bool false, .string s, .string ⟨#[]⟩], .bool true]) (by simp [results, Tryd.results64, go_sem, e0, e1, e2]) rfl ⟨by unfold spI spF spK; rw [DK.out, extract_full, extract_none _ _ _ (by omega), decide_eq_true (.inl rfl)], res_below B2.out (Nat.le_refl _) _ _ _⟩
end Go.Proofs.YtmggdnnffdaffaaDoor
