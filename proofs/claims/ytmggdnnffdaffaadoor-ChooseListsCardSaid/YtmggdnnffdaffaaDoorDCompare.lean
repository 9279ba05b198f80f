/- Compare of the program. -/
import Derived.Test.YtmggdnnffdaffaaDoorDTop
import Derived.Deep.QuietTactic
import Derived.BigQuiet
namespace Go.Proofs.YtmggdnnffdaffaaDoor
open Go.RowKit

set_option maxHeartbeats 1000000 in
set_option maxRecDepth 100000 in
theorem compare_bad1 (na nb : Bool) (ia fa ib fb : ByteArray) (w : World) (h1 : ia.size ≤ 140737488355328) (h2 : fa.size ≤ 140737488355328) (h : okB na ia fa = false) :
    Calls Tryd.prog 13 #[.agg #[.bool na, .string ia, .string fa], .agg #[.bool nb, .string ib, .string fb]] w fun e w' => e = .returned (.tuple #[.int .i64 0, .int .i64 20]) ∧ Below w.heap.size w w' := by
  have DC := Lib.hid (fun wx => checkBoth_one na nb ia fa ib fb wx h1 h2 h)
  clear h
  go_enter Tryd.func13, Tryd.ntmps13
  go_wp2_with fail
  (with_reducible refine (DC.out _).mono ?_)
  rintro e W3 ⟨rfl, hb3⟩
  go_wp2
  go_ret2
  exact ⟨rfl, (below_two w _ _).trans (hb3.mono (by simp; omega))⟩
set_option maxHeartbeats 1000000 in
set_option maxRecDepth 100000 in
theorem compare_bad2 (na nb : Bool) (ia fa ib fb : ByteArray) (w : World) (h1 : ia.size ≤ 140737488355328) (h2 : fa.size ≤ 140737488355328) (h3 : ib.size ≤ 140737488355328) (h4 : fb.size ≤ 140737488355328) (ha : okB na ia fa = true) (h : okB nb ib fb = false) :
    Calls Tryd.prog 13 #[.agg #[.bool na, .string ia, .string fa], .agg #[.bool nb, .string ib, .string fb]] w fun e w' => e = .returned (.tuple #[.int .i64 0, .int .i64 20]) ∧ Below w.heap.size w w' := by
  have DC := Lib.hid (fun wx => checkBoth_two na nb ia fa ib fb wx h1 h2 h3 h4 ha)
  have q := ck_bad h
  clear h ha
  go_enter Tryd.func13, Tryd.ntmps13
  go_wp2_with fail
  (with_reducible refine (DC.out _).mono ?_)
  rintro e W3 ⟨rfl, hb3⟩
  go_wp2
  go_ret2
  exact ⟨rfl, (below_two w _ _).trans (hb3.mono (by simp; omega))⟩

theorem cmp_any (a b : Dc) (wx : World) (ga gb : Nat) (ha : a.Fm) (hb : b.Fm) (h1 : Blk wx ga (nC (placed a.i a.f (1 + max a.i.length b.i.length) (max a.f.length b.f.length)))) (h2 : Blk wx gb (nC (placed b.i b.f (1 + max a.i.length b.i.length) (max a.f.length b.f.length)))) :
    Calls Tryd.prog 31 #[.slice (some ⟨ga, 0, none⟩) (1 + max a.i.length b.i.length + max a.f.length b.f.length) (1 + max a.i.length b.i.length + max a.f.length b.f.length), .slice (some ⟨gb, 0, none⟩) (1 + max a.i.length b.i.length + max a.f.length b.f.length) (1 + max a.i.length b.i.length + max a.f.length b.f.length)] wx fun e w' => e = .returned (.int .i64 (cmpN (a.raised (max a.f.length b.f.length)) (b.raised (max a.f.length b.f.length)))) ∧ Below wx.heap.size wx w' := by
  have hm1 := ha.most
  have hm2 := hb.most
  have := compare_any _ _ ga gb _ wx h1 h2 (placed_digs ha.di ha.df) (placed_digs hb.di hb.df) (placed_len (by omega) (by omega)) (placed_len (by omega) (by omega)) (by omega)
  rw [placed_num, placed_num] at this
  exact this
theorem cmp_turn (a b : Dc) (wx : World) (ga gb : Nat) (ha : a.Fm) (hb : b.Fm) (h1 : Blk wx ga (nC (placed a.i a.f (1 + max a.i.length b.i.length) (max a.f.length b.f.length)))) (h2 : Blk wx gb (nC (placed b.i b.f (1 + max a.i.length b.i.length) (max a.f.length b.f.length)))) :
    Calls Tryd.prog 31 #[.slice (some ⟨gb, 0, none⟩) (1 + max a.i.length b.i.length + max a.f.length b.f.length) (1 + max a.i.length b.i.length + max a.f.length b.f.length), .slice (some ⟨ga, 0, none⟩) (1 + max a.i.length b.i.length + max a.f.length b.f.length) (1 + max a.i.length b.i.length + max a.f.length b.f.length)] wx fun e w' => e = .returned (.int .i64 (cmpN (b.raised (max a.f.length b.f.length)) (a.raised (max a.f.length b.f.length)))) ∧ Below wx.heap.size wx w' := by
  have hm1 := ha.most
  have hm2 := hb.most
  have := compare_any _ _ gb ga _ wx h2 h1 (placed_digs hb.di hb.df) (placed_digs ha.di ha.df) (placed_len (by omega) (by omega)) (placed_len (by omega) (by omega)) (by omega)
  rw [placed_num, placed_num] at this
  exact this
theorem cmpN_neg (x y : Nat) : cmpN y x = -cmpN x y := by
  unfold cmpN
  repeat' split
  all_goals omega
set_option maxHeartbeats 2000000 in
set_option maxRecDepth 100000 in
theorem compare_ok (a b : Dc) (w : World) (ha : a.Ok) (hb : b.Ok) :
    Calls Tryd.prog 13 #[.agg #[.bool a.neg, .string (dStr a.i), .string (dStr a.f)], .agg #[.bool b.neg, .string (dStr b.i), .string (dStr b.f)]] w fun e w' => e = .returned (.tuple #[.int .i64 (cmpD a b), .int .i64 0]) ∧ Below w.heap.size w w' := by
  have DC := Lib.hid (fun wx => checkBoth_two a.neg b.neg (dStr a.i) (dStr a.f) (dStr b.i) (dStr b.f) wx (by rw [dStr_size]; have := ha.most; omega) (by rw [dStr_size]; have := ha.most; omega) (by rw [dStr_size]; have := hb.most; omega) (by rw [dStr_size]; have := hb.most; omega) (ok_of ha))
  have q := ck_ok hb
  have DA := Lib.hid (fun wx => aligned_any a b wx ha.fm hb.fm)
  have D1 := Lib.hid (fun wx ga gb => cmp_any a b wx ga gb ha.fm hb.fm)
  have D2 := Lib.hid (fun wx ga gb => cmp_turn a b wx ga gb ha.fm hb.fm)
  have CR := Lib.hid (cmp_ref a b rfl ha.sign hb.sign)
  clear ha hb
  cases hna : a.neg <;> cases hnb : b.neg
  all_goals
    have HNA := Lib.hid hna
    have HNB := Lib.hid hnb
    rw [hna, hnb] at DC
    rw [hnb] at q
    rw [hna, hnb] at DA
    clear hna hnb
    go_enter Tryd.func13, Tryd.ntmps13
    go_wp2_with fail
    (with_reducible refine (DC.out _).mono ?_)
    rintro e W3 ⟨rfl, hb3⟩
    have hz3 : w.heap.size + 2 ≤ W3.heap.size := by have := hb3.size; simp at this; omega
    obtain ⟨_, CA, CB, _⟩ := two_boxes w _ _ _ _ _ _ _
    obtain ⟨na0, na1, na2⟩ := CA.keep hb3 (by simp; omega)
    obtain ⟨nb0, nb1, nb2⟩ := CB.keep hb3 (by simp)
    have B3 := Lib.hid ((below_two w _ _).trans (hb3.mono (by simp; omega)))
    clear CA CB hb3
    go_wp2_with fail
    (with_reducible refine (DA.out _).mono ?_)
    rintro e W4 ⟨ga, gb, rfl, hka, hkb, hb4⟩
    have KA := Lib.hid hka
    have KB := Lib.hid hkb
    have B4 := Lib.hid (B3.out.trans (hb4.mono B3.out.size))
    have ma0 := (hb4.cell (p := ⟨w.heap.size, 0, none⟩) (by show w.heap.size < W3.heap.size; omega)).trans na0
    have mb0 := (hb4.cell (p := ⟨w.heap.size + 1, 0, none⟩) (by show w.heap.size + 1 < W3.heap.size; omega)).trans nb0
    clear hka hkb hb4 na0 na1 na2 nb0 nb1 nb2
    go_wp2_with fail
  · (with_reducible refine (D1.out _ _ _ ?_ ?_).mono ?_)
    · exact KA.out
    · exact KB.out
    rintro e W5 ⟨rfl, hb5⟩
    go_wp2
    go_ret2
    exact ⟨by rw [CR.out, HNA.out, HNB.out]; rfl, B4.out.trans (hb5.mono B4.out.size)⟩
  · go_ret2
    exact ⟨by rw [CR.out, HNA.out, HNB.out]; rfl, B4.out⟩
  · go_ret2
    exact ⟨by rw [CR.out, HNA.out, HNB.out]; rfl, B4.out⟩
  · (with_reducible refine (D2.out _ _ _ ?_ ?_).mono ?_)
    · exact KA.out
    · exact KB.out
    rintro e W5 ⟨rfl, hb5⟩
    go_wp2
    go_ret2
    exact ⟨by rw [CR.out, HNA.out, HNB.out, cmpN_neg]; rfl, B4.out.trans (hb5.mono B4.out.size)⟩
end Go.Proofs.YtmggdnnffdaffaaDoor
