/- Boxes of nine cells: operands in memory; operandsOf. -/
import Derived.Test.YtmggdnnffdaffaaDoorOpA
import Derived.Test.YtmggdnnffdaffaaDoorDMoves
namespace Go.Proofs.YtmggdnnffdaffaaDoor
open Go.RowKit
attribute [local go_sem ↓] Go.wp_at_zero Go.wp_at_succ

/-- The nine cells of operands. -/
def Cells9 (w : World) (b : Nat) (x0 x1 x2 x3 x4 x5 x6 x7 x8 : Value) : Prop :=
  w.cell? ⟨b, 0, none⟩ = some x0 ∧ w.cell? ⟨b, 1, none⟩ = some x1 ∧ w.cell? ⟨b, 2, none⟩ = some x2 ∧ w.cell? ⟨b, 3, none⟩ = some x3 ∧ w.cell? ⟨b, 4, none⟩ = some x4 ∧ w.cell? ⟨b, 5, none⟩ = some x5 ∧ w.cell? ⟨b, 6, none⟩ = some x6 ∧ w.cell? ⟨b, 7, none⟩ = some x7 ∧ w.cell? ⟨b, 8, none⟩ = some x8
theorem Cells9.keep {W w' : World} {b : Nat} {x0 x1 x2 x3 x4 x5 x6 x7 x8 : Value} (h : Cells9 W b x0 x1 x2 x3 x4 x5 x6 x7 x8) (hb : Below W.heap.size W w') (hlt : b < W.heap.size) : Cells9 w' b x0 x1 x2 x3 x4 x5 x6 x7 x8 :=
  ⟨(hb.cell (p := ⟨b, 0, none⟩) hlt).trans h.1, (hb.cell (p := ⟨b, 1, none⟩) hlt).trans h.2.1, (hb.cell (p := ⟨b, 2, none⟩) hlt).trans h.2.2.1, (hb.cell (p := ⟨b, 3, none⟩) hlt).trans h.2.2.2.1, (hb.cell (p := ⟨b, 4, none⟩) hlt).trans h.2.2.2.2.1, (hb.cell (p := ⟨b, 5, none⟩) hlt).trans h.2.2.2.2.2.1, (hb.cell (p := ⟨b, 6, none⟩) hlt).trans h.2.2.2.2.2.2.1, (hb.cell (p := ⟨b, 7, none⟩) hlt).trans h.2.2.2.2.2.2.2.1, (hb.cell (p := ⟨b, 8, none⟩) hlt).trans h.2.2.2.2.2.2.2.2⟩
theorem nine_box (w : World) (x0 x1 x2 x3 x4 x5 x6 x7 x8 : Value) (t : TypeId) : w.heap.size + 1 ≤ (w.alloc (.cells #[x0, x1, x2, x3, x4, x5, x6, x7, x8] t)).heap.size ∧ Cells9 (w.alloc (.cells #[x0, x1, x2, x3, x4, x5, x6, x7, x8] t)) w.heap.size x0 x1 x2 x3 x4 x5 x6 x7 x8 ∧ ∀ i, (w.alloc (.cells #[x0, x1, x2, x3, x4, x5, x6, x7, x8] t)).frozen? ⟨w.heap.size, i, none⟩ = false :=
  ⟨by simp, ⟨by simp, by simp, by simp, by simp, by simp, by simp, by simp, by simp, by simp⟩, fun i => by simp⟩
theorem far9 {W : World} {b : Nat} {p : Addr} {x0 x1 x2 x3 x4 x5 x6 x7 x8 : Value} (h : Cells9 W b x0 x1 x2 x3 x4 x5 x6 x7 x8) (hp : p.block ≠ b) (u : Value) : Cells9 (W.setCell p u) b x0 x1 x2 x3 x4 x5 x6 x7 x8 := by
  have k : ∀ i, (W.setCell p u).cell? ⟨b, i, none⟩ = W.cell? ⟨b, i, none⟩ := fun i => World.cell?_setCell_other _ _ _ _ (fun e => hp (congrArg Addr.block e))
  unfold Cells9
  simp only [k]
  exact h
theorem fars3 {W : World} {b : Nat} {p : Addr} {x0 x1 x2 : Value} (h : Cells3 W b x0 x1 x2) (hp : p.block ≠ b) (u : Value) : Cells3 (W.setCell p u) b x0 x1 x2 := by
  have k : ∀ i, (W.setCell p u).cell? ⟨b, i, none⟩ = W.cell? ⟨b, i, none⟩ := fun i => World.cell?_setCell_other _ _ _ _ (fun e => hp (congrArg Addr.block e))
  unfold Cells3
  simp only [k]
  exact h
/-- Nine cells written one after another. -/
def put9 (W : World) (c : Nat) (y0 y1 y2 y3 y4 y5 y6 y7 y8 : Value) : World := (((((((((W.setCell ⟨c, 0, none⟩ y0).setCell ⟨c, 1, none⟩ y1).setCell ⟨c, 2, none⟩ y2).setCell ⟨c, 3, none⟩ y3).setCell ⟨c, 4, none⟩ y4).setCell ⟨c, 5, none⟩ y5).setCell ⟨c, 6, none⟩ y6).setCell ⟨c, 7, none⟩ y7).setCell ⟨c, 8, none⟩ y8)
theorem far9s (W : World) (b c i : Nat) (y0 y1 y2 y3 y4 y5 y6 y7 y8 : Value) (h : b ≠ c) : ((((((((((W.setCell ⟨c, 0, none⟩ y0).setCell ⟨c, 1, none⟩ y1).setCell ⟨c, 2, none⟩ y2).setCell ⟨c, 3, none⟩ y3).setCell ⟨c, 4, none⟩ y4).setCell ⟨c, 5, none⟩ y5).setCell ⟨c, 6, none⟩ y6).setCell ⟨c, 7, none⟩ y7).setCell ⟨c, 8, none⟩ y8)).cell? ⟨b, i, none⟩ = W.cell? ⟨b, i, none⟩ := by
  have k : ∀ (V : World) (j : Nat) (y : Value), (V.setCell ⟨c, j, none⟩ y).cell? ⟨b, i, none⟩ = V.cell? ⟨b, i, none⟩ := fun V j y => World.cell?_setCell_other _ _ _ _ (fun e => h (congrArg Addr.block e).symm)
  rw [k, k, k, k, k, k, k, k, k]
theorem drew_cell (V : World) (p : Addr) : V.drew.cell? p = V.cell? p := rfl
theorem far9d (W : World) (b c i : Nat) (y0 y1 y2 y3 y4 y5 y6 y7 y8 : Value) (h : b ≠ c) : ((((((((((W.setCell ⟨c, 0, none⟩ y0).setCell ⟨c, 1, none⟩ y1).setCell ⟨c, 2, none⟩ y2).setCell ⟨c, 3, none⟩ y3).setCell ⟨c, 4, none⟩ y4).setCell ⟨c, 5, none⟩ y5).setCell ⟨c, 6, none⟩ y6).setCell ⟨c, 7, none⟩ y7).setCell ⟨c, 8, none⟩ y8)).drew.cell? ⟨b, i, none⟩ = W.cell? ⟨b, i, none⟩ := (drew_cell _ _).trans <| far9s W b c i y0 y1 y2 y3 y4 y5 y6 y7 y8 h
theorem res_cells9 {W : World} {b : Nat} {x0 x1 x2 x3 x4 x5 x6 x7 x8 : Value} (h : Cells9 W b x0 x1 x2 x3 x4 x5 x6 x7 x8) (y0 y1 y2 y3 y4 y5 y6 y7 y8 : Value) : (W.setCell ⟨b, 0, none⟩ y0).cell? ⟨b, 0, none⟩ = some y0 ∧ ((W.setCell ⟨b, 0, none⟩ y0).setCell ⟨b, 1, none⟩ y1).cell? ⟨b, 1, none⟩ = some y1 ∧ (((W.setCell ⟨b, 0, none⟩ y0).setCell ⟨b, 1, none⟩ y1).setCell ⟨b, 2, none⟩ y2).cell? ⟨b, 2, none⟩ = some y2 ∧ ((((W.setCell ⟨b, 0, none⟩ y0).setCell ⟨b, 1, none⟩ y1).setCell ⟨b, 2, none⟩ y2).setCell ⟨b, 3, none⟩ y3).cell? ⟨b, 3, none⟩ = some y3 ∧ (((((W.setCell ⟨b, 0, none⟩ y0).setCell ⟨b, 1, none⟩ y1).setCell ⟨b, 2, none⟩ y2).setCell ⟨b, 3, none⟩ y3).setCell ⟨b, 4, none⟩ y4).cell? ⟨b, 4, none⟩ = some y4 ∧ ((((((W.setCell ⟨b, 0, none⟩ y0).setCell ⟨b, 1, none⟩ y1).setCell ⟨b, 2, none⟩ y2).setCell ⟨b, 3, none⟩ y3).setCell ⟨b, 4, none⟩ y4).setCell ⟨b, 5, none⟩ y5).cell? ⟨b, 5, none⟩ = some y5 ∧ (((((((W.setCell ⟨b, 0, none⟩ y0).setCell ⟨b, 1, none⟩ y1).setCell ⟨b, 2, none⟩ y2).setCell ⟨b, 3, none⟩ y3).setCell ⟨b, 4, none⟩ y4).setCell ⟨b, 5, none⟩ y5).setCell ⟨b, 6, none⟩ y6).cell? ⟨b, 6, none⟩ = some y6 ∧ ((((((((W.setCell ⟨b, 0, none⟩ y0).setCell ⟨b, 1, none⟩ y1).setCell ⟨b, 2, none⟩ y2).setCell ⟨b, 3, none⟩ y3).setCell ⟨b, 4, none⟩ y4).setCell ⟨b, 5, none⟩ y5).setCell ⟨b, 6, none⟩ y6).setCell ⟨b, 7, none⟩ y7).cell? ⟨b, 7, none⟩ = some y7 ∧ (((((((((W.setCell ⟨b, 0, none⟩ y0).setCell ⟨b, 1, none⟩ y1).setCell ⟨b, 2, none⟩ y2).setCell ⟨b, 3, none⟩ y3).setCell ⟨b, 4, none⟩ y4).setCell ⟨b, 5, none⟩ y5).setCell ⟨b, 6, none⟩ y6).setCell ⟨b, 7, none⟩ y7).setCell ⟨b, 8, none⟩ y8).cell? ⟨b, 8, none⟩ = some y8 :=
  ⟨cell_set_same _ _ _ _ h.1, cell_set_same _ _ _ _ (cell_set_far _ _ _ _ _ _ (by decide) h.2.1), cell_set_same _ _ _ _ (cell_set_far _ _ _ _ _ _ (by decide) (cell_set_far _ _ _ _ _ _ (by decide) h.2.2.1)), cell_set_same _ _ _ _ (cell_set_far _ _ _ _ _ _ (by decide) (cell_set_far _ _ _ _ _ _ (by decide) (cell_set_far _ _ _ _ _ _ (by decide) h.2.2.2.1))), cell_set_same _ _ _ _ (cell_set_far _ _ _ _ _ _ (by decide) (cell_set_far _ _ _ _ _ _ (by decide) (cell_set_far _ _ _ _ _ _ (by decide) (cell_set_far _ _ _ _ _ _ (by decide) h.2.2.2.2.1)))), cell_set_same _ _ _ _ (cell_set_far _ _ _ _ _ _ (by decide) (cell_set_far _ _ _ _ _ _ (by decide) (cell_set_far _ _ _ _ _ _ (by decide) (cell_set_far _ _ _ _ _ _ (by decide) (cell_set_far _ _ _ _ _ _ (by decide) h.2.2.2.2.2.1))))), cell_set_same _ _ _ _ (cell_set_far _ _ _ _ _ _ (by decide) (cell_set_far _ _ _ _ _ _ (by decide) (cell_set_far _ _ _ _ _ _ (by decide) (cell_set_far _ _ _ _ _ _ (by decide) (cell_set_far _ _ _ _ _ _ (by decide) (cell_set_far _ _ _ _ _ _ (by decide) h.2.2.2.2.2.2.1)))))), cell_set_same _ _ _ _ (cell_set_far _ _ _ _ _ _ (by decide) (cell_set_far _ _ _ _ _ _ (by decide) (cell_set_far _ _ _ _ _ _ (by decide) (cell_set_far _ _ _ _ _ _ (by decide) (cell_set_far _ _ _ _ _ _ (by decide) (cell_set_far _ _ _ _ _ _ (by decide) (cell_set_far _ _ _ _ _ _ (by decide) h.2.2.2.2.2.2.2.1))))))), cell_set_same _ _ _ _ (cell_set_far _ _ _ _ _ _ (by decide) (cell_set_far _ _ _ _ _ _ (by decide) (cell_set_far _ _ _ _ _ _ (by decide) (cell_set_far _ _ _ _ _ _ (by decide) (cell_set_far _ _ _ _ _ _ (by decide) (cell_set_far _ _ _ _ _ _ (by decide) (cell_set_far _ _ _ _ _ _ (by decide) (cell_set_far _ _ _ _ _ _ (by decide) h.2.2.2.2.2.2.2.2))))))))⟩
theorem res_below9 {W w : World} {B b : Nat} (hB : Below B w W) (hb : B ≤ b) (y0 y1 y2 y3 y4 y5 y6 y7 y8 : Value) : Below B w ((((((((((W.setCell ⟨b, 0, none⟩ y0).setCell ⟨b, 1, none⟩ y1).setCell ⟨b, 2, none⟩ y2).setCell ⟨b, 3, none⟩ y3).setCell ⟨b, 4, none⟩ y4).setCell ⟨b, 5, none⟩ y5).setCell ⟨b, 6, none⟩ y6).setCell ⟨b, 7, none⟩ y7).setCell ⟨b, 8, none⟩ y8)) :=
  ((((((((hB.setCell (p := ⟨b, 0, none⟩) hb _).setCell (p := ⟨b, 1, none⟩) hb _).setCell (p := ⟨b, 2, none⟩) hb _).setCell (p := ⟨b, 3, none⟩) hb _).setCell (p := ⟨b, 4, none⟩) hb _).setCell (p := ⟨b, 5, none⟩) hb _).setCell (p := ⟨b, 6, none⟩) hb _).setCell (p := ⟨b, 7, none⟩) hb _).setCell (p := ⟨b, 8, none⟩) hb _
theorem absD_ok {d : Dc} (h : d.Ok) : (⟨false, d.i, d.f⟩ : Dc).Ok := ⟨h.di, h.df, h.one, h.most, h.lead, fun e => by cases e⟩

set_option maxHeartbeats 10000000 in
set_option maxRecDepth 100000 in
theorem operandsOf_any (d t : Dc) (k : Int) (w : World) (ht : trimD ⟨false, d.i, d.f⟩ = t) (hd : d.Ok) :
    Calls Tryd.prog 19 #[.agg #[.bool d.neg, .string (dStr d.i), .string (dStr d.f)], .int .i64 k] w fun e w' => e = .returned (.agg #[.bool false, .string (dStr t.i), .string (dStr t.f), .string (dStr d.i), .int .i64 d.f.length, .int .i64 t.f.length, .string (dStr (intg d.f)), .string (dStr (intg t.f)), .int .i64 k]) ∧ Below w.heap.size w w' := by
  have htn : t.neg = false := by rw [← ht]; rfl
  have hto : t.Ok := by rw [← ht]; exact (trim_facts (absD_ok hd)).1
  have DT : Hid (∀ wx : World, Calls Tryd.prog 36 #[(.agg #[.bool false, .string (dStr d.i), .string (dStr d.f)])] wx fun e w' => e = .returned (.tuple #[.agg #[.bool false, .string (dStr t.i), .string (dStr t.f)], .int .i64 0]) ∧ Below wx.heap.size wx w') := fun wx => by
    have := trim_ok ⟨false, d.i, d.f⟩ wx (absD_ok hd)
    rw [ht, htn] at this
    exact this
  have D1 := Lib.hid (fun wx => integer_any d.f wx hd.df (by have := hd.most; omega))
  have D2 := Lib.hid (fun wx => integer_any t.f wx hto.df (by have := hto.most; omega))
  have sf : (dStr d.f).size = d.f.length := dStr_size d.f
  have st : (dStr t.f).size = t.f.length := dStr_size t.f
  clear ht hd hto htn
  go_enter Tryd.func19, Tryd.ntmps19
  go_wp2_with fail
  obtain ⟨W2, hW2⟩ : ∃ W2, W2 = (w.alloc (.cells #[.bool false, .string (dStr d.i), .string (dStr d.f)] 27)).alloc (.cells #[.bool false, .string ⟨#[]⟩, .string ⟨#[]⟩, .string ⟨#[]⟩, .int .i64 0, .int .i64 0, .string ⟨#[]⟩, .string ⟨#[]⟩, .int .i64 0] 30) := ⟨_, rfl⟩
  obtain ⟨hb2, hz2, CA, CR, FR⟩ : Below w.heap.size w W2 ∧ w.heap.size + 2 ≤ W2.heap.size ∧ Cells3 W2 w.heap.size (.bool false) (.string (dStr d.i)) (.string (dStr d.f)) ∧ Cells9 W2 (w.heap.size + 1) (.bool false) (.string ⟨#[]⟩) (.string ⟨#[]⟩) (.string ⟨#[]⟩) (.int .i64 0) (.int .i64 0) (.string ⟨#[]⟩) (.string ⟨#[]⟩) (.int .i64 0) ∧ ∀ i, W2.frozen? ⟨w.heap.size + 1, i, none⟩ = false := by
    rw [hW2]
    obtain ⟨s1, c1, f1⟩ := one_box w (.bool false) (.string (dStr d.i)) (.string (dStr d.f)) 27
    obtain ⟨s2, c2, f2⟩ := nine_box (w.alloc (.cells #[.bool false, .string (dStr d.i), .string (dStr d.f)] 27)) (.bool false) (.string ⟨#[]⟩) (.string ⟨#[]⟩) (.string ⟨#[]⟩) (.int .i64 0) (.int .i64 0) (.string ⟨#[]⟩) (.string ⟨#[]⟩) (.int .i64 0) 30
    have hs : (w.alloc (.cells #[.bool false, .string (dStr d.i), .string (dStr d.f)] 27)).heap.size = w.heap.size + 1 := by simp
    rw [hs] at c2 f2 s2
    exact ⟨below_two w _ _, s2, c1.keep ((Below.refl _ _).alloc (Nat.le_refl _) _) (by omega), c2, f2⟩
  rw [← hW2]
  clear hW2
  (with_reducible refine (DT.out _).mono ?_)
  rintro e W3 ⟨rfl, hb3⟩
  have CA3 := CA.keep hb3 (by omega)
  have CR3 := CR.keep hb3 (by omega)
  have FR3 := frozen_keep FR hb3 (by omega)
  have hz3 : w.heap.size + 2 ≤ W3.heap.size := by have := hb3.size; omega
  have B3 := Lib.hid (hb2.trans (hb3.mono hb2.size))
  clear hb3 hb2 CA CR FR hz2
  obtain ⟨W4, hW4⟩ : ∃ W4, W4 = W3.alloc (.cells #[.bool false, .string (dStr t.i), .string (dStr t.f)] 27) := ⟨_, rfl⟩
  have ba : Below W3.heap.size W3 W4 := by rw [hW4]; exact (Below.refl _ _).alloc (Nat.le_refl _) _
  have CA4 := CA3.keep ba (by omega)
  have CR4 := Lib.hid (CR3.keep ba (by omega))
  have FR4 := Lib.hid (frozen_keep FR3 ba (by omega))
  have B4 := Lib.hid (B3.out.trans (ba.mono B3.out.size))
  obtain ⟨hz4, CN4, -⟩ : W3.heap.size + 1 ≤ W4.heap.size ∧ Cells3 W4 W3.heap.size (.bool false) (.string (dStr t.i)) (.string (dStr t.f)) ∧ True := by rw [hW4]; exact ⟨(one_box _ _ _ _ _).1, (one_box _ _ _ _ _).2.1, trivial⟩
  have HW4 := Lib.hid hW4
  clear hW4 ba CA3 CR3 FR3 B3
  have a0 := CA4.1
  have a1 := CA4.2.1
  have a2 := CA4.2.2
  have n0 := CN4.1
  have n1 := CN4.2.1
  have n2 := CN4.2.2
  go_wp2_with fail
  rw [← HW4.out]
  obtain ⟨r0, r1, r2, r3, r4, r5, r6, r7, r8⟩ := CR4.out
  have z0 := FR4.out
  go_region_held3 (fun w' => w'.cell? ⟨w.heap.size, 0, none⟩ = some (.bool false) ∧ w'.cell? ⟨w.heap.size, 1, none⟩ = some (.string (dStr d.i)) ∧ w'.cell? ⟨w.heap.size, 2, none⟩ = some (.string (dStr d.f)) ∧ w'.cell? ⟨W3.heap.size, 0, none⟩ = some (.bool false) ∧ w'.cell? ⟨W3.heap.size, 1, none⟩ = some (.string (dStr t.i)) ∧ w'.cell? ⟨W3.heap.size, 2, none⟩ = some (.string (dStr t.f)))
    (first | (with_reducible exact ⟨a0, a1, a2, n0, n1, n2⟩) | (with_reducible exact ⟨(drew_cell _ _).trans a0, (drew_cell _ _).trans a1, (drew_cell _ _).trans a2, (drew_cell _ _).trans n0, (drew_cell _ _).trans n1, (drew_cell _ _).trans n2⟩) | (with_reducible (refine ⟨(far9d _ _ _ _ _ _ _ _ _ _ _ _ _ ?_).trans a0, (far9d _ _ _ _ _ _ _ _ _ _ _ _ _ ?_).trans a1, (far9d _ _ _ _ _ _ _ _ _ _ _ _ _ ?_).trans a2, (far9d _ _ _ _ _ _ _ _ _ _ _ _ _ ?_).trans n0, (far9d _ _ _ _ _ _ _ _ _ _ _ _ _ ?_).trans n1, (far9d _ _ _ _ _ _ _ _ _ _ _ _ _ ?_).trans n2⟩ <;> omega)))
    (first
      | (go_at_call 37; (with_reducible refine (D1.out _).mono ?_); rintro e wA ⟨rfl, rfl⟩)
      | (go_at_call 37; (with_reducible refine (D2.out _).mono ?_); rintro e wB ⟨rfl, rfl⟩))
  obtain ⟨e0, e1, e2, e3, e4, e5, e6, e7, e8⟩ := res_cells9 CR4.out (.bool false) (.string (dStr t.i)) (.string (dStr t.f)) (.string (dStr d.i)) (.int .i64 d.f.length) (.int .i64 t.f.length) (.string (dStr (intg d.f))) (.string (dStr (intg t.f))) (.int .i64 k)
  clear r0 r1 r2 r3 r4 r5 r6 r7 r8
  go_wp2
  exact bodyPost_ret (v := .agg #[.bool false, .string (dStr t.i), .string (dStr t.f), .string (dStr d.i), .int .i64 d.f.length, .int .i64 t.f.length, .string (dStr (intg d.f)), .string (dStr (intg t.f)), .int .i64 k]) (by simp [results, Tryd.results19, go_sem, e0, e1, e2, e3, e4, e5, e6, e7, e8]) rfl ⟨rfl, drew1 (res_below9 B4.out (Nat.le_succ _) _ _ _ _ _ _ _ _ _)⟩
end Go.Proofs.YtmggdnnffdaffaaDoor
