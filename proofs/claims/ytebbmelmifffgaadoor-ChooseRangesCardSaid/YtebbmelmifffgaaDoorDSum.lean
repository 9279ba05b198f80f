/- sum of two decimals. -/
import Derived.Test.YtebbmelmifffgaaDoorDBox
namespace Go.Proofs.YtebbmelmifffgaaDoor
open Go.RowKit
attribute [local go_sem ↓] Go.wp_at_zero Go.wp_at_succ

theorem far3 (W : World) (b c i : Nat) (x y z : Value) (h : b ≠ c) : (((W.setCell ⟨c, 0, none⟩ x).setCell ⟨c, 1, none⟩ y).setCell ⟨c, 2, none⟩ z).cell? ⟨b, i, none⟩ = W.cell? ⟨b, i, none⟩ :=
  (World.cell?_setCell_other _ _ _ _ (fun e => h (congrArg Addr.block e).symm)).trans ((World.cell?_setCell_other _ _ _ _ (fun e => h (congrArg Addr.block e).symm)).trans (World.cell?_setCell_other _ _ _ _ (fun e => h (congrArg Addr.block e).symm)))
/-- There is room for a sum. -/
theorem raised_lt (a : Dc) (W s : Nat) (h : a.Fm) (h1 : a.i.length ≤ W) (h2 : a.f.length ≤ s) : a.raised s < 10 ^ (W + s) := by
  rw [← placed_num a W s]
  have := dVal_lt (placed_digs (whole := W) (scale := s) h.di h.df)
  rw [placed_len h1 h2] at this
  exact this
theorem raised_room (a b : Dc) (ha : a.Fm) (hb : b.Fm) : a.raised (max a.f.length b.f.length) + b.raised (max a.f.length b.f.length) < 10 ^ (1 + max a.i.length b.i.length + max a.f.length b.f.length) := by
  have h1 := raised_lt a (max a.i.length b.i.length) (max a.f.length b.f.length) ha (by omega) (by omega)
  have h2 := raised_lt b (max a.i.length b.i.length) (max a.f.length b.f.length) hb (by omega) (by omega)
  have e : (1 + max a.i.length b.i.length + max a.f.length b.f.length) = max a.i.length b.i.length + (max a.f.length b.f.length) + 1 := by omega
  rw [e, Nat.pow_succ]
  omega

set_option maxHeartbeats 2000000 in
set_option maxRecDepth 100000 in
theorem sum_a (a b : Dc) (w : World) (o : Option Dc) (ho : sumD a b = o) (ha : a.Fm) (hb : b.Fm) (hs : a.neg = b.neg) :
    Calls Tryd.prog 114 #[.agg #[.bool a.neg, .string (dStr a.i), .string (dStr a.f)], .agg #[.bool b.neg, .string (dStr b.i), .string (dStr b.f)]] w fun e w' => e = .returned (.tuple #[.agg #[.bool (oN o), .string (oI o), .string (oF o)], .int .i64 (oE o)]) ∧ Below w.heap.size w w' := by
  obtain ⟨hm1, hm2, ho1, ho2⟩ : a.i.length + a.f.length ≤ 40 ∧ b.i.length + b.f.length ≤ 40 ∧ 1 ≤ a.i.length ∧ 1 ≤ b.i.length := ⟨ha.most, hb.most, ha.one, hb.one⟩
  have L1 : (placed a.i a.f (1 + max a.i.length b.i.length) (max a.f.length b.f.length)).length = (1 + max a.i.length b.i.length + max a.f.length b.f.length) := placed_len (by omega) (by omega)
  have L2 : (placed b.i b.f (1 + max a.i.length b.i.length) (max a.f.length b.f.length)).length = (1 + max a.i.length b.i.length + max a.f.length b.f.length) := placed_len (by omega) (by omega)
  have D1 : Digs (placed a.i a.f (1 + max a.i.length b.i.length) (max a.f.length b.f.length)) := placed_digs ha.di ha.df
  have D2 : Digs (placed b.i b.f (1 + max a.i.length b.i.length) (max a.f.length b.f.length)) := placed_digs hb.di hb.df
  have V1 := placed_num a (1 + max a.i.length b.i.length) (max a.f.length b.f.length)
  have V2 := placed_num b (1 + max a.i.length b.i.length) (max a.f.length b.f.length)
  have R1 := raised_room a b ha hb
  have HNl : a.raised (max a.f.length b.f.length) + b.raised (max a.f.length b.f.length) < 10 ^ (1 + max a.i.length b.i.length + max a.f.length b.f.length) := by exact R1
  have HO : mkN a.neg (a.raised (max a.f.length b.f.length) + b.raised (max a.f.length b.f.length)) (max a.f.length b.f.length) = o := by rw [← ho]; exact (by rw [hs]; exact sum_same rfl hs)
  have DM := Lib.hid (fun (g : Nat) (wx : World) (hk : Blk wx g (nC (fixD (1 + max a.i.length b.i.length + max a.f.length b.f.length) (a.raised (max a.f.length b.f.length) + b.raised (max a.f.length b.f.length))))) => decimalOf_at a.neg (fixD (1 + max a.i.length b.i.length + max a.f.length b.f.length) (a.raised (max a.f.length b.f.length) + b.raised (max a.f.length b.f.length))) (1 + max a.i.length b.i.length + max a.f.length b.f.length) g (max a.f.length b.f.length) wx o (by rw [fixD_val]; exact HO) (fixD_digs _ _) (fixD_len (by omega) HNl) hk (by omega) (by omega))
  have DF : Hid (∀ (ga gb : Nat) (wx : World), Blk wx ga (nC (placed a.i a.f (1 + max a.i.length b.i.length) (max a.f.length b.f.length))) → Blk wx gb (nC (placed b.i b.f (1 + max a.i.length b.i.length) (max a.f.length b.f.length))) → Calls Tryd.prog 128 #[.slice (some ⟨ga, 0, none⟩) (1 + max a.i.length b.i.length + max a.f.length b.f.length) (1 + max a.i.length b.i.length + max a.f.length b.f.length), .slice (some ⟨gb, 0, none⟩) (1 + max a.i.length b.i.length + max a.f.length b.f.length) (1 + max a.i.length b.i.length + max a.f.length b.f.length)] wx (MadeN wx (1 + max a.i.length b.i.length + max a.f.length b.f.length) (a.raised (max a.f.length b.f.length) + b.raised (max a.f.length b.f.length)))) := by
    intro ga gb wx h1 h2
    have := add_any (placed a.i a.f (1 + max a.i.length b.i.length) (max a.f.length b.f.length)) (placed b.i b.f (1 + max a.i.length b.i.length) (max a.f.length b.f.length)) ga gb (1 + max a.i.length b.i.length + max a.f.length b.f.length) wx h1 h2 D1 D2 L1 L2 (by omega) (by omega) (by rw [V1, V2]; exact R1)
    rw [V1, V2] at this
    exact this
  have DC : Hid (∀ (ga gb : Nat) (wx : World), Blk wx ga (nC (placed a.i a.f (1 + max a.i.length b.i.length) (max a.f.length b.f.length))) → Blk wx gb (nC (placed b.i b.f (1 + max a.i.length b.i.length) (max a.f.length b.f.length))) → Calls Tryd.prog 125 #[.slice (some ⟨ga, 0, none⟩) (1 + max a.i.length b.i.length + max a.f.length b.f.length) (1 + max a.i.length b.i.length + max a.f.length b.f.length), .slice (some ⟨gb, 0, none⟩) (1 + max a.i.length b.i.length + max a.f.length b.f.length) (1 + max a.i.length b.i.length + max a.f.length b.f.length)] wx fun e w' => e = .returned (.int .i64 (cmpN (a.raised (max a.f.length b.f.length)) (b.raised (max a.f.length b.f.length)))) ∧ Below wx.heap.size wx w') := by
    intro ga gb wx h1 h2
    have := compare_any (placed a.i a.f (1 + max a.i.length b.i.length) (max a.f.length b.f.length)) (placed b.i b.f (1 + max a.i.length b.i.length) (max a.f.length b.f.length)) ga gb (1 + max a.i.length b.i.length + max a.f.length b.f.length) wx h1 h2 D1 D2 L1 L2 (by omega)
    rw [V1, V2] at this
    exact this
  have DA := Lib.hid (fun wx => aligned_any a b wx ha hb)
  have q : (a.neg == b.neg) = true := by rw [hs]; exact beq_self_eq_true _
  clear hs
  clear ha hb ho HO HNl V1 V2 L1 L2 D1 D2 R1 hm1 hm2 ho1 ho2
  go_enter Tryd.func114, Tryd.ntmps114
  go_wp2_with fail
  obtain ⟨W2, hW2⟩ : ∃ W2, W2 = ((w.alloc (.cells #[.bool a.neg, .string (dStr a.i), .string (dStr a.f)] 55)).alloc (.cells #[.bool b.neg, .string (dStr b.i), .string (dStr b.f)] 55)).alloc (.cells #[.bool false, .string ⟨#[]⟩, .string ⟨#[]⟩] 55) := ⟨_, rfl⟩
  obtain ⟨hb2, hz2, CA, CB, CR, FR⟩ : Below w.heap.size w W2 ∧ w.heap.size + 3 ≤ W2.heap.size ∧ Cells3 W2 w.heap.size (.bool a.neg) (.string (dStr a.i)) (.string (dStr a.f)) ∧ Cells3 W2 (w.heap.size + 1) (.bool b.neg) (.string (dStr b.i)) (.string (dStr b.f)) ∧ Cells3 W2 (w.heap.size + 2) (.bool false) (.string ⟨#[]⟩) (.string ⟨#[]⟩) ∧ ∀ i, W2.frozen? ⟨w.heap.size + 2, i, none⟩ = false := by rw [hW2]; exact ⟨below_three w _ _ _, three_boxes w _ _ _ _ _ _ _ _ _ _⟩
  rw [← hW2]
  clear hW2
  (with_reducible refine (DA.out _).mono ?_)
  rintro e W3 ⟨ga, gb, rfl, hka, hkb, hb3⟩
  have KA := Lib.hid hka
  have KB := Lib.hid hkb
  obtain ⟨na0, na1, na2⟩ := CA.keep hb3 (by omega)
  obtain ⟨nb0, nb1, nb2⟩ := CB.keep hb3 (by omega)
  have CR3 := Lib.hid (CR.keep hb3 (by omega))
  have FR3 := Lib.hid (frozen_keep FR hb3 (by omega))
  have hz3 : w.heap.size + 3 ≤ W3.heap.size := by have := hb3.size; omega
  have B3 := Lib.hid (hb2.trans (hb3.mono hb2.size))
  clear hka hkb hb3 hb2 CA CB CR FR hz2
  go_wp2_with fail
  go_region_held3 (fun w' => w'.cell? ⟨w.heap.size, 0, none⟩ = some (.bool a.neg))
    (first | exact na0 | exact ((undrew hbA).cell (p := ⟨w.heap.size, 0, none⟩) (by show w.heap.size < W3.heap.size; omega)).trans na0 | exact (hb4.cell (p := ⟨w.heap.size, 0, none⟩) (by show w.heap.size < W3.heap.size; omega)).trans na0 | exact (far3 _ _ _ _ _ _ _ (by omega)).trans ((hb4.cell (p := ⟨w.heap.size, 0, none⟩) (by show w.heap.size < W3.heap.size; omega)).trans na0) | go_keep)
    (first
      | (go_at_call 128; (with_reducible refine (DF.out _ _ _ ?_ ?_).mono ?_); (focus exact KA.out); (focus exact KB.out); rintro e wA ⟨rfl, hkA, hbA⟩)
      | (go_at_call 70; (with_reducible refine (DM.out _ _ ?_).mono ?_); (focus exact hkA); rintro e wB ⟨rfl, hbB⟩
         have hb4 : Below W3.heap.size W3 wB := (undrew hbA).trans (hbB.mono (undrew hbA).size)
         obtain ⟨r0, r1, r2⟩ := CR3.out.keep hb4 (by omega)
         have z0 := frozen_keep FR3.out hb4 (by omega)))
  obtain ⟨e0, e1, e2⟩ := res_cells r0 r1 r2 (.bool (oN o)) (.string (oI o)) (.string (oF o))
  go_wp2
  exact bodyPost_ret (v := .tuple #[.agg #[.bool (oN o), .string (oI o), .string (oF o)], .int .i64 (oE o)]) (by simp [results, Tryd.results114, go_sem, e0, e1, e2]) rfl ⟨rfl, res_below (B3.out.trans (hb4.mono B3.out.size)) (by omega) _ _ _⟩

set_option maxHeartbeats 2000000 in
set_option maxRecDepth 100000 in
theorem sum_b (a b : Dc) (w : World) (o : Option Dc) (ho : sumD a b = o) (ha : a.Fm) (hb : b.Fm) (hs : a.neg ≠ b.neg) (hle : b.raised (max a.f.length b.f.length) ≤ a.raised (max a.f.length b.f.length)) :
    Calls Tryd.prog 114 #[.agg #[.bool a.neg, .string (dStr a.i), .string (dStr a.f)], .agg #[.bool b.neg, .string (dStr b.i), .string (dStr b.f)]] w fun e w' => e = .returned (.tuple #[.agg #[.bool (oN o), .string (oI o), .string (oF o)], .int .i64 (oE o)]) ∧ Below w.heap.size w w' := by
  obtain ⟨hm1, hm2, ho1, ho2⟩ : a.i.length + a.f.length ≤ 40 ∧ b.i.length + b.f.length ≤ 40 ∧ 1 ≤ a.i.length ∧ 1 ≤ b.i.length := ⟨ha.most, hb.most, ha.one, hb.one⟩
  have L1 : (placed a.i a.f (1 + max a.i.length b.i.length) (max a.f.length b.f.length)).length = (1 + max a.i.length b.i.length + max a.f.length b.f.length) := placed_len (by omega) (by omega)
  have L2 : (placed b.i b.f (1 + max a.i.length b.i.length) (max a.f.length b.f.length)).length = (1 + max a.i.length b.i.length + max a.f.length b.f.length) := placed_len (by omega) (by omega)
  have D1 : Digs (placed a.i a.f (1 + max a.i.length b.i.length) (max a.f.length b.f.length)) := placed_digs ha.di ha.df
  have D2 : Digs (placed b.i b.f (1 + max a.i.length b.i.length) (max a.f.length b.f.length)) := placed_digs hb.di hb.df
  have V1 := placed_num a (1 + max a.i.length b.i.length) (max a.f.length b.f.length)
  have V2 := placed_num b (1 + max a.i.length b.i.length) (max a.f.length b.f.length)
  have R1 := raised_room a b ha hb
  have HNl : a.raised (max a.f.length b.f.length) - b.raised (max a.f.length b.f.length) < 10 ^ (1 + max a.i.length b.i.length + max a.f.length b.f.length) := by omega
  have HO : mkN a.neg (a.raised (max a.f.length b.f.length) - b.raised (max a.f.length b.f.length)) (max a.f.length b.f.length) = o := by rw [← ho]; exact (sum_first rfl hs hle)
  have DM := Lib.hid (fun (g : Nat) (wx : World) (hk : Blk wx g (nC (fixD (1 + max a.i.length b.i.length + max a.f.length b.f.length) (a.raised (max a.f.length b.f.length) - b.raised (max a.f.length b.f.length))))) => decimalOf_at a.neg (fixD (1 + max a.i.length b.i.length + max a.f.length b.f.length) (a.raised (max a.f.length b.f.length) - b.raised (max a.f.length b.f.length))) (1 + max a.i.length b.i.length + max a.f.length b.f.length) g (max a.f.length b.f.length) wx o (by rw [fixD_val]; exact HO) (fixD_digs _ _) (fixD_len (by omega) HNl) hk (by omega) (by omega))
  have DF : Hid (∀ (ga gb : Nat) (wx : World), Blk wx ga (nC (placed a.i a.f (1 + max a.i.length b.i.length) (max a.f.length b.f.length))) → Blk wx gb (nC (placed b.i b.f (1 + max a.i.length b.i.length) (max a.f.length b.f.length))) → Calls Tryd.prog 129 #[.slice (some ⟨ga, 0, none⟩) (1 + max a.i.length b.i.length + max a.f.length b.f.length) (1 + max a.i.length b.i.length + max a.f.length b.f.length), .slice (some ⟨gb, 0, none⟩) (1 + max a.i.length b.i.length + max a.f.length b.f.length) (1 + max a.i.length b.i.length + max a.f.length b.f.length)] wx (MadeN wx (1 + max a.i.length b.i.length + max a.f.length b.f.length) (a.raised (max a.f.length b.f.length) - b.raised (max a.f.length b.f.length)))) := by
    intro ga gb wx h1 h2
    have := subtract_any (placed a.i a.f (1 + max a.i.length b.i.length) (max a.f.length b.f.length)) (placed b.i b.f (1 + max a.i.length b.i.length) (max a.f.length b.f.length)) ga gb (1 + max a.i.length b.i.length + max a.f.length b.f.length) wx h1 h2 D1 D2 L1 L2 (by omega) (by omega) (by rw [V1, V2]; exact hle)
    rw [V1, V2] at this
    exact this
  have DC : Hid (∀ (ga gb : Nat) (wx : World), Blk wx ga (nC (placed a.i a.f (1 + max a.i.length b.i.length) (max a.f.length b.f.length))) → Blk wx gb (nC (placed b.i b.f (1 + max a.i.length b.i.length) (max a.f.length b.f.length))) → Calls Tryd.prog 125 #[.slice (some ⟨ga, 0, none⟩) (1 + max a.i.length b.i.length + max a.f.length b.f.length) (1 + max a.i.length b.i.length + max a.f.length b.f.length), .slice (some ⟨gb, 0, none⟩) (1 + max a.i.length b.i.length + max a.f.length b.f.length) (1 + max a.i.length b.i.length + max a.f.length b.f.length)] wx fun e w' => e = .returned (.int .i64 (cmpN (a.raised (max a.f.length b.f.length)) (b.raised (max a.f.length b.f.length)))) ∧ Below wx.heap.size wx w') := by
    intro ga gb wx h1 h2
    have := compare_any (placed a.i a.f (1 + max a.i.length b.i.length) (max a.f.length b.f.length)) (placed b.i b.f (1 + max a.i.length b.i.length) (max a.f.length b.f.length)) ga gb (1 + max a.i.length b.i.length + max a.f.length b.f.length) wx h1 h2 D1 D2 L1 L2 (by omega)
    rw [V1, V2] at this
    exact this
  have DA := Lib.hid (fun wx => aligned_any a b wx ha hb)
  have q : (a.neg == b.neg) = false := by simpa using hs
  have q2 : decide (0 ≤ cmpN (a.raised (max a.f.length b.f.length)) (b.raised (max a.f.length b.f.length))) = true := decide_eq_true (by unfold cmpN; repeat' split; all_goals omega)
  generalize cmpN (a.raised (max a.f.length b.f.length)) (b.raised (max a.f.length b.f.length)) = cc at *
  clear hs hle
  clear ha hb ho HO HNl V1 V2 L1 L2 D1 D2 R1 hm1 hm2 ho1 ho2
  go_enter Tryd.func114, Tryd.ntmps114
  go_wp2_with fail
  obtain ⟨W2, hW2⟩ : ∃ W2, W2 = ((w.alloc (.cells #[.bool a.neg, .string (dStr a.i), .string (dStr a.f)] 55)).alloc (.cells #[.bool b.neg, .string (dStr b.i), .string (dStr b.f)] 55)).alloc (.cells #[.bool false, .string ⟨#[]⟩, .string ⟨#[]⟩] 55) := ⟨_, rfl⟩
  obtain ⟨hb2, hz2, CA, CB, CR, FR⟩ : Below w.heap.size w W2 ∧ w.heap.size + 3 ≤ W2.heap.size ∧ Cells3 W2 w.heap.size (.bool a.neg) (.string (dStr a.i)) (.string (dStr a.f)) ∧ Cells3 W2 (w.heap.size + 1) (.bool b.neg) (.string (dStr b.i)) (.string (dStr b.f)) ∧ Cells3 W2 (w.heap.size + 2) (.bool false) (.string ⟨#[]⟩) (.string ⟨#[]⟩) ∧ ∀ i, W2.frozen? ⟨w.heap.size + 2, i, none⟩ = false := by rw [hW2]; exact ⟨below_three w _ _ _, three_boxes w _ _ _ _ _ _ _ _ _ _⟩
  rw [← hW2]
  clear hW2
  (with_reducible refine (DA.out _).mono ?_)
  rintro e W3 ⟨ga, gb, rfl, hka, hkb, hb3⟩
  have KA := Lib.hid hka
  have KB := Lib.hid hkb
  obtain ⟨na0, na1, na2⟩ := CA.keep hb3 (by omega)
  obtain ⟨nb0, nb1, nb2⟩ := CB.keep hb3 (by omega)
  have CR3 := Lib.hid (CR.keep hb3 (by omega))
  have FR3 := Lib.hid (frozen_keep FR hb3 (by omega))
  have hz3 : w.heap.size + 3 ≤ W3.heap.size := by have := hb3.size; omega
  have B3 := Lib.hid (hb2.trans (hb3.mono hb2.size))
  clear hka hkb hb3 hb2 CA CB CR FR hz2
  go_wp2_with fail
  (with_reducible refine (DC.out _ _ _ ?_ ?_).mono ?_)
  · exact KA.out
  · exact KB.out
  rintro e W4 ⟨rfl, hb5⟩
  have KA4 := Lib.hid (KA.out.below hb5 KA.out.lt)
  have KB4 := Lib.hid (KB.out.below hb5 KB.out.lt)
  have ma0 : W4.cell? ⟨w.heap.size, 0, none⟩ = some (.bool a.neg) := (hb5.cell (p := ⟨w.heap.size, 0, none⟩) (by show w.heap.size < W3.heap.size; omega)).trans na0
  have mb0 : W4.cell? ⟨w.heap.size + 1, 0, none⟩ = some (.bool b.neg) := (hb5.cell (p := ⟨w.heap.size + 1, 0, none⟩) (by show w.heap.size + 1 < W3.heap.size; omega)).trans nb0
  have CR4 := Lib.hid (CR3.out.keep hb5 (by omega))
  have FR4 := Lib.hid (frozen_keep FR3.out hb5 (by omega))
  have hz4 : w.heap.size + 3 ≤ W4.heap.size := by have := hb5.size; omega
  have B4 := Lib.hid (B3.out.trans (hb5.mono B3.out.size))
  clear hb5 na0 na1 na2 nb0 nb1 nb2 CR3 FR3 hz3 B3 KA KB
  go_wp2_with fail
  go_region_held3 (fun w' => w'.cell? ⟨w.heap.size, 0, none⟩ = some (.bool a.neg))
    (first | exact ma0 | exact ((undrew hbA).cell (p := ⟨w.heap.size, 0, none⟩) (by show w.heap.size < W4.heap.size; omega)).trans ma0 | exact (hb4.cell (p := ⟨w.heap.size, 0, none⟩) (by show w.heap.size < W4.heap.size; omega)).trans ma0 | exact (far3 _ _ _ _ _ _ _ (by omega)).trans ((hb4.cell (p := ⟨w.heap.size, 0, none⟩) (by show w.heap.size < W4.heap.size; omega)).trans ma0) | go_keep)
    (first
      | (go_at_call 129; (with_reducible refine (DF.out _ _ _ ?_ ?_).mono ?_); (focus exact KA4.out); (focus exact KB4.out); rintro e wA ⟨rfl, hkA, hbA⟩)
      | (go_at_call 70; (with_reducible refine (DM.out _ _ ?_).mono ?_); (focus exact hkA); rintro e wB ⟨rfl, hbB⟩
         have hb4 : Below W4.heap.size W4 wB := (undrew hbA).trans (hbB.mono (undrew hbA).size)
         obtain ⟨r0, r1, r2⟩ := CR4.out.keep hb4 (by omega)
         have z0 := frozen_keep FR4.out hb4 (by omega)))
  obtain ⟨e0, e1, e2⟩ := res_cells r0 r1 r2 (.bool (oN o)) (.string (oI o)) (.string (oF o))
  go_wp2
  exact bodyPost_ret (v := .tuple #[.agg #[.bool (oN o), .string (oI o), .string (oF o)], .int .i64 (oE o)]) (by simp [results, Tryd.results114, go_sem, e0, e1, e2]) rfl ⟨rfl, res_below (B4.out.trans (hb4.mono B4.out.size)) (by omega) _ _ _⟩

set_option maxHeartbeats 2000000 in
set_option maxRecDepth 100000 in
theorem sum_c (a b : Dc) (w : World) (o : Option Dc) (ho : sumD a b = o) (ha : a.Fm) (hb : b.Fm) (hs : a.neg ≠ b.neg) (hle : a.raised (max a.f.length b.f.length) < b.raised (max a.f.length b.f.length)) :
    Calls Tryd.prog 114 #[.agg #[.bool a.neg, .string (dStr a.i), .string (dStr a.f)], .agg #[.bool b.neg, .string (dStr b.i), .string (dStr b.f)]] w fun e w' => e = .returned (.tuple #[.agg #[.bool (oN o), .string (oI o), .string (oF o)], .int .i64 (oE o)]) ∧ Below w.heap.size w w' := by
  obtain ⟨hm1, hm2, ho1, ho2⟩ : a.i.length + a.f.length ≤ 40 ∧ b.i.length + b.f.length ≤ 40 ∧ 1 ≤ a.i.length ∧ 1 ≤ b.i.length := ⟨ha.most, hb.most, ha.one, hb.one⟩
  have L1 : (placed a.i a.f (1 + max a.i.length b.i.length) (max a.f.length b.f.length)).length = (1 + max a.i.length b.i.length + max a.f.length b.f.length) := placed_len (by omega) (by omega)
  have L2 : (placed b.i b.f (1 + max a.i.length b.i.length) (max a.f.length b.f.length)).length = (1 + max a.i.length b.i.length + max a.f.length b.f.length) := placed_len (by omega) (by omega)
  have D1 : Digs (placed a.i a.f (1 + max a.i.length b.i.length) (max a.f.length b.f.length)) := placed_digs ha.di ha.df
  have D2 : Digs (placed b.i b.f (1 + max a.i.length b.i.length) (max a.f.length b.f.length)) := placed_digs hb.di hb.df
  have V1 := placed_num a (1 + max a.i.length b.i.length) (max a.f.length b.f.length)
  have V2 := placed_num b (1 + max a.i.length b.i.length) (max a.f.length b.f.length)
  have R1 := raised_room a b ha hb
  have HNl : b.raised (max a.f.length b.f.length) - a.raised (max a.f.length b.f.length) < 10 ^ (1 + max a.i.length b.i.length + max a.f.length b.f.length) := by omega
  have HO : mkN b.neg (b.raised (max a.f.length b.f.length) - a.raised (max a.f.length b.f.length)) (max a.f.length b.f.length) = o := by rw [← ho]; exact (sum_second rfl hs (Nat.le_of_lt hle))
  have DM := Lib.hid (fun (g : Nat) (wx : World) (hk : Blk wx g (nC (fixD (1 + max a.i.length b.i.length + max a.f.length b.f.length) (b.raised (max a.f.length b.f.length) - a.raised (max a.f.length b.f.length))))) => decimalOf_at b.neg (fixD (1 + max a.i.length b.i.length + max a.f.length b.f.length) (b.raised (max a.f.length b.f.length) - a.raised (max a.f.length b.f.length))) (1 + max a.i.length b.i.length + max a.f.length b.f.length) g (max a.f.length b.f.length) wx o (by rw [fixD_val]; exact HO) (fixD_digs _ _) (fixD_len (by omega) HNl) hk (by omega) (by omega))
  have DF : Hid (∀ (ga gb : Nat) (wx : World), Blk wx ga (nC (placed b.i b.f (1 + max a.i.length b.i.length) (max a.f.length b.f.length))) → Blk wx gb (nC (placed a.i a.f (1 + max a.i.length b.i.length) (max a.f.length b.f.length))) → Calls Tryd.prog 129 #[.slice (some ⟨ga, 0, none⟩) (1 + max a.i.length b.i.length + max a.f.length b.f.length) (1 + max a.i.length b.i.length + max a.f.length b.f.length), .slice (some ⟨gb, 0, none⟩) (1 + max a.i.length b.i.length + max a.f.length b.f.length) (1 + max a.i.length b.i.length + max a.f.length b.f.length)] wx (MadeN wx (1 + max a.i.length b.i.length + max a.f.length b.f.length) (b.raised (max a.f.length b.f.length) - a.raised (max a.f.length b.f.length)))) := by
    intro ga gb wx h1 h2
    have := subtract_any (placed b.i b.f (1 + max a.i.length b.i.length) (max a.f.length b.f.length)) (placed a.i a.f (1 + max a.i.length b.i.length) (max a.f.length b.f.length)) ga gb (1 + max a.i.length b.i.length + max a.f.length b.f.length) wx h1 h2 D2 D1 L2 L1 (by omega) (by omega) (by rw [V1, V2]; omega)
    rw [V1, V2] at this
    exact this
  have DC : Hid (∀ (ga gb : Nat) (wx : World), Blk wx ga (nC (placed a.i a.f (1 + max a.i.length b.i.length) (max a.f.length b.f.length))) → Blk wx gb (nC (placed b.i b.f (1 + max a.i.length b.i.length) (max a.f.length b.f.length))) → Calls Tryd.prog 125 #[.slice (some ⟨ga, 0, none⟩) (1 + max a.i.length b.i.length + max a.f.length b.f.length) (1 + max a.i.length b.i.length + max a.f.length b.f.length), .slice (some ⟨gb, 0, none⟩) (1 + max a.i.length b.i.length + max a.f.length b.f.length) (1 + max a.i.length b.i.length + max a.f.length b.f.length)] wx fun e w' => e = .returned (.int .i64 (cmpN (a.raised (max a.f.length b.f.length)) (b.raised (max a.f.length b.f.length)))) ∧ Below wx.heap.size wx w') := by
    intro ga gb wx h1 h2
    have := compare_any (placed a.i a.f (1 + max a.i.length b.i.length) (max a.f.length b.f.length)) (placed b.i b.f (1 + max a.i.length b.i.length) (max a.f.length b.f.length)) ga gb (1 + max a.i.length b.i.length + max a.f.length b.f.length) wx h1 h2 D1 D2 L1 L2 (by omega)
    rw [V1, V2] at this
    exact this
  have DA := Lib.hid (fun wx => aligned_any a b wx ha hb)
  have q : (a.neg == b.neg) = false := by simpa using hs
  have q2 : decide (0 ≤ cmpN (a.raised (max a.f.length b.f.length)) (b.raised (max a.f.length b.f.length))) = false := decide_eq_false (by unfold cmpN; repeat' split; all_goals omega)
  generalize cmpN (a.raised (max a.f.length b.f.length)) (b.raised (max a.f.length b.f.length)) = cc at *
  clear hs hle
  clear ha hb ho HO HNl V1 V2 L1 L2 D1 D2 R1 hm1 hm2 ho1 ho2
  go_enter Tryd.func114, Tryd.ntmps114
  go_wp2_with fail
  obtain ⟨W2, hW2⟩ : ∃ W2, W2 = ((w.alloc (.cells #[.bool a.neg, .string (dStr a.i), .string (dStr a.f)] 55)).alloc (.cells #[.bool b.neg, .string (dStr b.i), .string (dStr b.f)] 55)).alloc (.cells #[.bool false, .string ⟨#[]⟩, .string ⟨#[]⟩] 55) := ⟨_, rfl⟩
  obtain ⟨hb2, hz2, CA, CB, CR, FR⟩ : Below w.heap.size w W2 ∧ w.heap.size + 3 ≤ W2.heap.size ∧ Cells3 W2 w.heap.size (.bool a.neg) (.string (dStr a.i)) (.string (dStr a.f)) ∧ Cells3 W2 (w.heap.size + 1) (.bool b.neg) (.string (dStr b.i)) (.string (dStr b.f)) ∧ Cells3 W2 (w.heap.size + 2) (.bool false) (.string ⟨#[]⟩) (.string ⟨#[]⟩) ∧ ∀ i, W2.frozen? ⟨w.heap.size + 2, i, none⟩ = false := by rw [hW2]; exact ⟨below_three w _ _ _, three_boxes w _ _ _ _ _ _ _ _ _ _⟩
  rw [← hW2]
  clear hW2
  (with_reducible refine (DA.out _).mono ?_)
  rintro e W3 ⟨ga, gb, rfl, hka, hkb, hb3⟩
  have KA := Lib.hid hka
  have KB := Lib.hid hkb
  obtain ⟨na0, na1, na2⟩ := CA.keep hb3 (by omega)
  obtain ⟨nb0, nb1, nb2⟩ := CB.keep hb3 (by omega)
  have CR3 := Lib.hid (CR.keep hb3 (by omega))
  have FR3 := Lib.hid (frozen_keep FR hb3 (by omega))
  have hz3 : w.heap.size + 3 ≤ W3.heap.size := by have := hb3.size; omega
  have B3 := Lib.hid (hb2.trans (hb3.mono hb2.size))
  clear hka hkb hb3 hb2 CA CB CR FR hz2
  go_wp2_with fail
  (with_reducible refine (DC.out _ _ _ ?_ ?_).mono ?_)
  · exact KA.out
  · exact KB.out
  rintro e W4 ⟨rfl, hb5⟩
  have KA4 := Lib.hid (KA.out.below hb5 KA.out.lt)
  have KB4 := Lib.hid (KB.out.below hb5 KB.out.lt)
  have ma0 : W4.cell? ⟨w.heap.size, 0, none⟩ = some (.bool a.neg) := (hb5.cell (p := ⟨w.heap.size, 0, none⟩) (by show w.heap.size < W3.heap.size; omega)).trans na0
  have mb0 : W4.cell? ⟨w.heap.size + 1, 0, none⟩ = some (.bool b.neg) := (hb5.cell (p := ⟨w.heap.size + 1, 0, none⟩) (by show w.heap.size + 1 < W3.heap.size; omega)).trans nb0
  have CR4 := Lib.hid (CR3.out.keep hb5 (by omega))
  have FR4 := Lib.hid (frozen_keep FR3.out hb5 (by omega))
  have hz4 : w.heap.size + 3 ≤ W4.heap.size := by have := hb5.size; omega
  have B4 := Lib.hid (B3.out.trans (hb5.mono B3.out.size))
  clear hb5 na0 na1 na2 nb0 nb1 nb2 CR3 FR3 hz3 B3 KA KB
  go_wp2_with fail
  go_region_held3 (fun w' => w'.cell? ⟨(w.heap.size + 1), 0, none⟩ = some (.bool b.neg))
    (first | exact mb0 | exact ((undrew hbA).cell (p := ⟨(w.heap.size + 1), 0, none⟩) (by show (w.heap.size + 1) < W4.heap.size; omega)).trans mb0 | exact (hb4.cell (p := ⟨(w.heap.size + 1), 0, none⟩) (by show (w.heap.size + 1) < W4.heap.size; omega)).trans mb0 | exact (far3 _ _ _ _ _ _ _ (by omega)).trans ((hb4.cell (p := ⟨(w.heap.size + 1), 0, none⟩) (by show (w.heap.size + 1) < W4.heap.size; omega)).trans mb0) | go_keep)
    (first
      | (go_at_call 129; (with_reducible refine (DF.out _ _ _ ?_ ?_).mono ?_); (focus exact KB4.out); (focus exact KA4.out); rintro e wA ⟨rfl, hkA, hbA⟩)
      | (go_at_call 70; (with_reducible refine (DM.out _ _ ?_).mono ?_); (focus exact hkA); rintro e wB ⟨rfl, hbB⟩
         have hb4 : Below W4.heap.size W4 wB := (undrew hbA).trans (hbB.mono (undrew hbA).size)
         obtain ⟨r0, r1, r2⟩ := CR4.out.keep hb4 (by omega)
         have z0 := frozen_keep FR4.out hb4 (by omega)))
  obtain ⟨e0, e1, e2⟩ := res_cells r0 r1 r2 (.bool (oN o)) (.string (oI o)) (.string (oF o))
  go_wp2
  exact bodyPost_ret (v := .tuple #[.agg #[.bool (oN o), .string (oI o), .string (oF o)], .int .i64 (oE o)]) (by simp [results, Tryd.results114, go_sem, e0, e1, e2]) rfl ⟨rfl, res_below (B4.out.trans (hb4.mono B4.out.size)) (by omega) _ _ _⟩

theorem sum_any (a b : Dc) (w : World) (o : Option Dc) (ho : sumD a b = o) (ha : a.Fm) (hb : b.Fm) :
    Calls Tryd.prog 114 #[.agg #[.bool a.neg, .string (dStr a.i), .string (dStr a.f)], .agg #[.bool b.neg, .string (dStr b.i), .string (dStr b.f)]] w fun e w' => e = .returned (.tuple #[.agg #[.bool (oN o), .string (oI o), .string (oF o)], .int .i64 (oE o)]) ∧ Below w.heap.size w w' := by
  by_cases hs : a.neg = b.neg
  · exact sum_a a b w o ho ha hb hs
  · rcases Nat.lt_or_ge (a.raised (max a.f.length b.f.length)) (b.raised (max a.f.length b.f.length)) with h | h
    · exact sum_c a b w o ho ha hb hs h
    · exact sum_b a b w o ho ha hb hs h
end Go.Proofs.YtebbmelmifffgaaDoor
