/- Parse of the program tells what is read of any text. -/
import Derived.Test.YtmggdnnffdaffaaDoorDParse
namespace Go.Proofs.YtmggdnnffdaffaaDoor
open Go.RowKit

theorem split_any (s : ByteArray) (w : World) (hs : s.size ≤ 65536) :
    Calls Tryd.prog 64 #[.string s] w fun e w' => e = .returned (.tuple #[.agg #[.bool (spN s), .string (spI (spT s)), .string (spF (spT s))], .bool (spK (spT s))]) ∧ Below w.heap.size w w' := by
  unfold spT
  cases h : spN s with
  | true =>
    rw [if_pos rfl]
    exact split_minus s w hs h
  | false =>
    rw [if_neg (by decide)]
    exact split_plain s w hs h
theorem sp_sizes (s : ByteArray) : (spI (spT s)).size ≤ s.size ∧ (spF (spT s)).size ≤ s.size := by
  have h : (spT s).size ≤ s.size := by unfold spT; split <;> simp
  constructor
  · unfold spI
    simp
    omega
  · unfold spF
    simp
    omega

set_option maxHeartbeats 1000000 in
set_option maxRecDepth 100000 in
theorem parse_long (s : ByteArray) (w : World) (hs : s.size ≤ maxLen) (h : 65536 < s.size) :
    Calls Tryd.prog 52 #[.string s] w fun e w' => e = .returned (.tuple #[.agg #[.bool false, .string ⟨#[]⟩, .string ⟨#[]⟩], .int .i64 2]) ∧ Below w.heap.size w w' := by
  unfold maxLen at hs
  go_enter Tryd.func52, Tryd.ntmps52
  go_wp2
  exact bodyPost_ret (v := .tuple #[.agg #[.bool false, .string ⟨#[]⟩, .string ⟨#[]⟩], .int .i64 2]) (by simp [results, Tryd.results52, go_sem]) rfl ⟨rfl, (Below.refl _ w).alloc (Nat.le_refl _) _⟩

set_option maxHeartbeats 1000000 in
set_option maxRecDepth 100000 in
theorem parse_bad1 (s : ByteArray) (w : World) (hs : ¬ 65536 < s.size) (h : spK (spT s) = false) :
    Calls Tryd.prog 52 #[.string s] w fun e w' => e = .returned (.tuple #[.agg #[.bool false, .string ⟨#[]⟩, .string ⟨#[]⟩], .int .i64 20]) ∧ Below w.heap.size w w' := by
  have DS := Lib.hid (fun wx => split_any s wx (by omega))
  have q : decide ((65536 : Int) < (s.size : Int)) = false := decide_eq_false (by omega)
  rw [h] at DS
  clear h
  generalize spI (spT s) = i at *
  generalize spF (spT s) = f at *
  generalize spN s = n at *
  go_enter Tryd.func52, Tryd.ntmps52
  go_wp2_with fail
  (with_reducible refine (DS.out _).mono ?_)
  rintro e W3 ⟨rfl, hb3⟩
  obtain ⟨_, hC, hF⟩ := one_box w (.bool false) (.string ⟨#[]⟩) (.string ⟨#[]⟩) 27
  have hz3 : w.heap.size + 1 ≤ W3.heap.size := by have := hb3.size; simp at this; omega
  have ba : Below W3.heap.size W3 (W3.alloc (.cells #[.bool n, .string i, .string f] 27)) := (Below.refl _ _).alloc (Nat.le_refl _) _
  have C4 := (hC.keep hb3 (by simp)).keep ba (by omega)
  have F4 := frozen_keep (frozen_keep hF hb3 (by simp)) ba (by omega)
  have B3 := Lib.hid (((Below.refl _ w).alloc (Nat.le_refl _) (.cells #[.bool false, .string ⟨#[]⟩, .string ⟨#[]⟩] 27)).trans (hb3.mono (by simp)))
  have B4 : Hid (Below w.heap.size w (W3.alloc (.cells #[.bool n, .string i, .string f] 27))) := B3.out.trans (ba.mono (by omega))
  obtain ⟨r0, r1, r2⟩ := C4
  obtain ⟨e0, e1, e2⟩ := res_cells r0 r1 r2 (.bool false) (.string ⟨#[]⟩) (.string ⟨#[]⟩)
  clear hb3 hC hF ba
  go_wp2
  exact bodyPost_ret (v := .tuple #[.agg #[.bool false, .string ⟨#[]⟩, .string ⟨#[]⟩], .int .i64 20]) (by simp [results, Tryd.results52, go_sem, e0, e1, e2]) rfl ⟨rfl, res_below B4.out (Nat.le_refl _) _ _ _⟩

/-- What is made of a text of the right form. -/
theorem parse_made (s : ByteArray) (hs : ¬ 65536 < s.size) (hK : spK (spT s) = true) (h : formB (spN s) (spI (spT s)) (spF (spT s)) = true) :
    ∃ o : Option Dc, psN s = oN o ∧ psI s = oI o ∧ psF s = oF o ∧ psE s = oE o ∧ ∀ w : World, Calls Tryd.prog 49 #[.agg #[.bool (spN s), .string (spI (spT s)), .string (spF (spT s))], .int .i64 ((spF (spT s)).size : Int)] w fun e w' => e = .returned (.tuple #[.agg #[.bool (oN o), .string (oI o), .string (oF o)], .int .i64 (oE o)]) ∧ Below w.heap.size w w' := by
  obtain ⟨d, hg, e1, e2, e3, hm⟩ := form_dc h
  obtain ⟨z1, z2⟩ := sp_sizes s
  have l1 : (spI (spT s)).data.toList = dB d.i := by rw [e2, dStr_toList]; rfl
  have l2 : (spF (spT s)).data.toList = dB d.f := by rw [e3, dStr_toList]; rfl
  have hp := ps_cut s hs
  rw [hK, h, Bool.and_self, if_pos rfl, l1, l2, dB_len, dB_len, e1] at hp
  rw [e2, dStr_size] at z1
  rw [e3, dStr_size] at z2
  refine ⟨mkN d.neg (d.raised d.f.length) d.f.length, ?_, ?_, ?_, ?_, fun w => ?_⟩
  · unfold psN
    rw [hp, hm]
    split <;> rfl
  · unfold psI
    rw [hp, hm]
    split
    · rfl
    · show (⟨(dB d.i).toArray⟩ : ByteArray) = dStr d.i
      rfl
  · unfold psF
    rw [hp, hm]
    split
    · rfl
    · show (⟨(dB d.f).toArray⟩ : ByteArray) = dStr d.f
      rfl
  · unfold psE
    rw [hp, hm]
    split <;> rfl
  · rw [e1, e2, e3, dStr_size]
    exact atScale_any d d.f.length w _ rfl hg (Nat.le_refl _) (by omega)

set_option maxHeartbeats 1000000 in
set_option maxRecDepth 100000 in
theorem parse_bad2 (s : ByteArray) (w : World) (hs : ¬ 65536 < s.size) (hK : spK (spT s) = true) (h : formB (spN s) (spI (spT s)) (spF (spT s)) = false) :
    Calls Tryd.prog 52 #[.string s] w fun e w' => e = .returned (.tuple #[.agg #[.bool false, .string ⟨#[]⟩, .string ⟨#[]⟩], .int .i64 20]) ∧ Below w.heap.size w w' := by
  obtain ⟨z1, z2⟩ := sp_sizes s
  have DS := Lib.hid (fun wx => split_any s wx (by omega))
  have DH := Lib.hid (fun wx => hasForm_any (spN s) (spI (spT s)) (spF (spT s)) wx (by unfold maxLen; omega) (by unfold maxLen; omega))
  have q : decide ((65536 : Int) < (s.size : Int)) = false := decide_eq_false (by omega)
  rw [hK] at DS
  rw [h] at DH
  clear h hK
  generalize spI (spT s) = i at *
  generalize spF (spT s) = f at *
  generalize spN s = n at *
  go_enter Tryd.func52, Tryd.ntmps52
  go_wp2_with fail
  (with_reducible refine (DS.out _).mono ?_)
  rintro e W3 ⟨rfl, hb3⟩
  obtain ⟨_, hC, hF⟩ := one_box w (.bool false) (.string ⟨#[]⟩) (.string ⟨#[]⟩) 27
  have hz3 : w.heap.size + 1 ≤ W3.heap.size := by have := hb3.size; simp at this; omega
  have ba : Below W3.heap.size W3 (W3.alloc (.cells #[.bool n, .string i, .string f] 27)) := (Below.refl _ _).alloc (Nat.le_refl _) _
  have C4 := (hC.keep hb3 (by simp)).keep ba (by omega)
  have F4 := frozen_keep (frozen_keep hF hb3 (by simp)) ba (by omega)
  have B3 := Lib.hid (((Below.refl _ w).alloc (Nat.le_refl _) (.cells #[.bool false, .string ⟨#[]⟩, .string ⟨#[]⟩] 27)).trans (hb3.mono (by simp)))
  have B4 : Hid (Below w.heap.size w (W3.alloc (.cells #[.bool n, .string i, .string f] 27))) := B3.out.trans (ba.mono (by omega))
  have D4 : Cells3 (W3.alloc (.cells #[.bool n, .string i, .string f] 27)) W3.heap.size (.bool n) (.string i) (.string f) := (one_box W3 _ _ _ _).2.1
  obtain ⟨W4, hW4⟩ : ∃ W4, W4 = W3.alloc (.cells #[.bool n, .string i, .string f] 27) := ⟨_, rfl⟩
  have hz4 : W3.heap.size + 1 ≤ W4.heap.size := by rw [hW4]; simp
  rw [← hW4] at C4 F4 D4 B4
  go_wp2_with fail
  rw [← hW4]
  clear hW4 ba hC hF hb3
  (with_reducible refine (DH.out _).mono ?_)
  rintro e W5 ⟨rfl, hb5⟩
  have c5 := D4.keep hb5 (by omega)
  have c6 := C4.keep hb5 (by omega)
  have f6 := frozen_keep F4 hb5 (by omega)
  have hz5 : w.heap.size + 1 ≤ W5.heap.size := by have := hb5.size; omega
  have B5 := B4.out.trans (hb5.mono (by omega))
  clear hb5 C4 F4 D4
  obtain ⟨r0, r1, r2⟩ := c6
  obtain ⟨e0, e1, e2⟩ := res_cells r0 r1 r2 (.bool false) (.string ⟨#[]⟩) (.string ⟨#[]⟩)
  go_wp2
  exact bodyPost_ret (v := .tuple #[.agg #[.bool false, .string ⟨#[]⟩, .string ⟨#[]⟩], .int .i64 20]) (by simp [results, Tryd.results52, go_sem, e0, e1, e2]) rfl ⟨rfl, res_below B5 (Nat.le_refl _) _ _ _⟩

set_option maxHeartbeats 1000000 in
set_option maxRecDepth 100000 in
theorem parse_ok (s : ByteArray) (w : World) (hs : ¬ 65536 < s.size) (hK : spK (spT s) = true) (h : formB (spN s) (spI (spT s)) (spF (spT s)) = true) :
    Calls Tryd.prog 52 #[.string s] w fun e w' => e = .returned (.tuple #[.agg #[.bool (psN s), .string (psI s), .string (psF s)], .int .i64 (psE s)]) ∧ Below w.heap.size w w' := by
  obtain ⟨z1, z2⟩ := sp_sizes s
  have DS := Lib.hid (fun wx => split_any s wx (by omega))
  have DH := Lib.hid (fun wx => hasForm_any (spN s) (spI (spT s)) (spF (spT s)) wx (by unfold maxLen; omega) (by unfold maxLen; omega))
  have q : decide ((65536 : Int) < (s.size : Int)) = false := decide_eq_false (by omega)
  obtain ⟨o, P1, P2, P3, P4, DT⟩ := parse_made s hs hK h
  have HP : Hid (Value.tuple #[.agg #[.bool (psN s), .string (psI s), .string (psF s)], .int .i64 (psE s)] = .tuple #[.agg #[.bool (oN o), .string (oI o), .string (oF o)], .int .i64 (oE o)]) := by show _ = _; rw [P1, P2, P3, P4]
  have DTT := Lib.hid DT
  clear P1 P2 P3 P4 DT
  rw [hK] at DS
  rw [h] at DH
  clear h hK
  generalize spI (spT s) = i at *
  generalize spF (spT s) = f at *
  generalize spN s = n at *
  go_enter Tryd.func52, Tryd.ntmps52
  go_wp2_with fail
  (with_reducible refine (DS.out _).mono ?_)
  rintro e W3 ⟨rfl, hb3⟩
  obtain ⟨_, hC, hF⟩ := one_box w (.bool false) (.string ⟨#[]⟩) (.string ⟨#[]⟩) 27
  have hz3 : w.heap.size + 1 ≤ W3.heap.size := by have := hb3.size; simp at this; omega
  have ba : Below W3.heap.size W3 (W3.alloc (.cells #[.bool n, .string i, .string f] 27)) := (Below.refl _ _).alloc (Nat.le_refl _) _
  have C4 := (hC.keep hb3 (by simp)).keep ba (by omega)
  have F4 := frozen_keep (frozen_keep hF hb3 (by simp)) ba (by omega)
  have B3 := Lib.hid (((Below.refl _ w).alloc (Nat.le_refl _) (.cells #[.bool false, .string ⟨#[]⟩, .string ⟨#[]⟩] 27)).trans (hb3.mono (by simp)))
  have B4 : Hid (Below w.heap.size w (W3.alloc (.cells #[.bool n, .string i, .string f] 27))) := B3.out.trans (ba.mono (by omega))
  have D4 : Cells3 (W3.alloc (.cells #[.bool n, .string i, .string f] 27)) W3.heap.size (.bool n) (.string i) (.string f) := (one_box W3 _ _ _ _).2.1
  obtain ⟨W4, hW4⟩ : ∃ W4, W4 = W3.alloc (.cells #[.bool n, .string i, .string f] 27) := ⟨_, rfl⟩
  have hz4 : W3.heap.size + 1 ≤ W4.heap.size := by rw [hW4]; simp
  rw [← hW4] at C4 F4 D4 B4
  go_wp2_with fail
  rw [← hW4]
  clear hW4 ba hC hF hb3
  (with_reducible refine (DH.out _).mono ?_)
  rintro e W5 ⟨rfl, hb5⟩
  have c5 := D4.keep hb5 (by omega)
  have c6 := C4.keep hb5 (by omega)
  have f6 := frozen_keep F4 hb5 (by omega)
  have hz5 : w.heap.size + 1 ≤ W5.heap.size := by have := hb5.size; omega
  have B5 := B4.out.trans (hb5.mono (by omega))
  clear hb5 C4 F4 D4
  obtain ⟨c0, c1, c2⟩ := c5
  have R5 := Lib.hid c6
  have Z5 := Lib.hid f6
  have HB5 := Lib.hid B5
  clear c6 f6 B5
  go_wp2_with fail
  (with_reducible refine (DTT.out _).mono ?_)
  rintro e W6 ⟨rfl, hb6⟩
  obtain ⟨r0, r1, r2⟩ := R5.out.keep hb6 (by omega)
  have z0 := frozen_keep Z5.out hb6 (by omega)
  obtain ⟨e0, e1, e2⟩ := res_cells r0 r1 r2 (.bool (oN o)) (.string (oI o)) (.string (oF o))
  go_wp2
  exact bodyPost_ret (v := .tuple #[.agg #[.bool (oN o), .string (oI o), .string (oF o)], .int .i64 (oE o)]) (by simp [results, Tryd.results52, go_sem, e0, e1, e2]) rfl ⟨by rw [HP.out], res_below (HB5.out.trans (hb6.mono (by omega))) (Nat.le_refl _) _ _ _⟩

theorem ps_zero (s : ByteArray) (e : Int) (h : psR s = (⟨false, [], []⟩, e)) : Value.tuple #[.agg #[.bool (psN s), .string (psI s), .string (psF s)], .int .i64 (psE s)] = .tuple #[.agg #[.bool false, .string ⟨#[]⟩, .string ⟨#[]⟩], .int .i64 e] := by
  unfold psN psI psF psE
  rw [h]
theorem parse_any (s : ByteArray) (w : World) (hs : s.size ≤ maxLen) :
    Calls Tryd.prog 52 #[.string s] w fun e w' => e = .returned (.tuple #[.agg #[.bool (psN s), .string (psI s), .string (psF s)], .int .i64 (psE s)]) ∧ Below w.heap.size w w' := by
  by_cases hl : 65536 < s.size
  · rw [ps_zero s 2 (ps_long s hl)]
    exact parse_long s w hs hl
  · have hp := ps_cut s hl
    cases hK : spK (spT s) with
    | false =>
      rw [hK, Bool.false_and, if_neg (by decide)] at hp
      rw [ps_zero s 20 hp]
      exact parse_bad1 s w hl hK
    | true =>
      cases hF : formB (spN s) (spI (spT s)) (spF (spT s)) with
      | false =>
        rw [hK, hF, Bool.and_false, if_neg (by decide)] at hp
        rw [ps_zero s 20 hp]
        exact parse_bad2 s w hl hK hF
      | true => exact parse_ok s w hl hK hF
end Go.Proofs.YtmggdnnffdaffaaDoor
