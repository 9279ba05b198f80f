/- atScale and aligned: a decimal at a scale; two decimals' digits at one scale. -/
import Derived.Test.YtmggdnnffdaffaaDoorDCmp
import Derived.Deep.RegionHeld3
namespace Go.Proofs.YtmggdnnffdaffaaDoor
open Go.RowKit
attribute [local go_sem ↓] Go.wp_at_zero Go.wp_at_succ

theorem placed_num (d : Dc) (whole scale : Nat) : dVal (placed d.i d.f whole scale) = d.raised scale := by
  unfold placed
  rw [dVal_append, dVal_append, dVal_zeros, dVal_zeros, List.length_replicate, Nat.zero_mul, Nat.zero_add, Nat.add_zero]
  rfl
/-- The three cells of a result, written. -/
theorem res_cells {W : World} {b : Nat} {x0 x1 x2 : Value} (r0 : W.cell? ⟨b, 0, none⟩ = some x0) (r1 : W.cell? ⟨b, 1, none⟩ = some x1) (r2 : W.cell? ⟨b, 2, none⟩ = some x2) (x y z : Value) :
    (W.setCell ⟨b, 0, none⟩ x).cell? ⟨b, 0, none⟩ = some x ∧ ((W.setCell ⟨b, 0, none⟩ x).setCell ⟨b, 1, none⟩ y).cell? ⟨b, 1, none⟩ = some y ∧ (((W.setCell ⟨b, 0, none⟩ x).setCell ⟨b, 1, none⟩ y).setCell ⟨b, 2, none⟩ z).cell? ⟨b, 2, none⟩ = some z :=
  ⟨cell_set_same _ _ _ _ r0, cell_set_same _ _ _ _ (cell_set_far _ _ _ _ _ _ (by decide) r1), cell_set_same _ _ _ _ (cell_set_far _ _ _ _ _ _ (by decide) (cell_set_far _ _ _ _ _ _ (by decide) r2))⟩
theorem res_below {W w : World} {B b : Nat} (h : Below B w W) (hb : B ≤ b) (x y z : Value) : Below B w (((W.setCell ⟨b, 0, none⟩ x).setCell ⟨b, 1, none⟩ y).setCell ⟨b, 2, none⟩ z) :=
  ((h.setCell (p := ⟨b, 0, none⟩) hb x).setCell (p := ⟨b, 1, none⟩) hb y).setCell (p := ⟨b, 2, none⟩) hb z
theorem undrew {w w' : World} (h : Below w.drew.heap.size w.drew w') : Below w.heap.size w w' := (Below.refl w.heap.size w).trans ⟨h.os, h.tape, h.output, h.size, h.block⟩
theorem drew1 {B : Nat} {w w' : World} (h : Below B w w') : Below B w w'.drew := h.trans ⟨rfl, rfl, rfl, Nat.le_refl _, fun _ _ => rfl⟩
/-- The three cells of a struct, kept. -/
def Cells3 (w : World) (b : Nat) (x0 x1 x2 : Value) : Prop := w.cell? ⟨b, 0, none⟩ = some x0 ∧ w.cell? ⟨b, 1, none⟩ = some x1 ∧ w.cell? ⟨b, 2, none⟩ = some x2
theorem Cells3.keep {W w' : World} {b : Nat} {x0 x1 x2 : Value} (h : Cells3 W b x0 x1 x2) (hb : Below W.heap.size W w') (hlt : b < W.heap.size) : Cells3 w' b x0 x1 x2 :=
  ⟨(hb.cell (p := ⟨b, 0, none⟩) hlt).trans h.1, (hb.cell (p := ⟨b, 1, none⟩) hlt).trans h.2.1, (hb.cell (p := ⟨b, 2, none⟩) hlt).trans h.2.2⟩
/-- Digits of both parts, of no form else. -/
structure Dc.Dg (d : Dc) : Prop where
  di : Digs d.i
  df : Digs d.f
  one : 1 ≤ d.i.length
theorem Dc.Ok.dg {d : Dc} (h : d.Ok) : d.Dg := ⟨h.di, h.df, h.one⟩
/-- Digits of both parts, not too many, whatever the sign. -/
structure Dc.Fm (d : Dc) : Prop where
  di : Digs d.i
  df : Digs d.f
  one : 1 ≤ d.i.length
  most : d.i.length + d.f.length ≤ 40
theorem Dc.Ok.fm {d : Dc} (h : d.Ok) : d.Fm := ⟨h.di, h.df, h.one, h.most⟩

/-- decimalOf of a block of digits. -/
theorem decimalOf_at (neg : Bool) (l : List Nat) (n g scale : Nat) (w : World) (o : Option Dc) (ho : mkN neg (dVal l) scale = o) (hl : Digs l) (hn : l.length = n) (hB : Blk w g (nC l)) (h1 : n ≤ 1000000) (h2 : scale ≤ 1000000) :
    Calls Tryd.prog 34 #[.bool neg, .slice (some ⟨g, 0, none⟩) n n, .int .i64 scale] w fun e w' => e = .returned (.tuple #[.agg #[.bool (oN o), .string (oI o), .string (oF o)], .int .i64 (oE o)]) ∧ Below w.heap.size w w' := by
  subst hn
  exact decimalOf_any neg l _ g 0 l.length scale w o ho hl (DgS.of_blk hB hB.lt) h1 h2 (by unfold maxLen; omega)

set_option maxHeartbeats 400000 in
set_option maxRecDepth 100000 in
theorem atScale_any (d : Dc) (scale : Nat) (w : World) (o : Option Dc) (ho : mkN d.neg (d.raised scale) scale = o) (hd : d.Dg) (hs : d.f.length ≤ scale) (hm : d.i.length + scale ≤ 200000) :
    Calls Tryd.prog 49 #[.agg #[.bool d.neg, .string (dStr d.i), .string (dStr d.f)], .int .i64 scale] w fun e w' => e = .returned (.tuple #[.agg #[.bool (oN o), .string (oI o), .string (oF o)], .int .i64 (oE o)]) ∧ Below w.heap.size w w' := by
  have HO := Lib.hid ho
  have HD := Lib.hid hd
  have hi1 := hd.one
  have si : (dStr d.i).size = d.i.length := dStr_size d.i
  clear ho hd
  go_enter Tryd.func49, Tryd.ntmps49
  go_wp2_with fail
  obtain ⟨W2, hW2⟩ : ∃ W2, W2 = (w.alloc (.cells #[.bool d.neg, .string (dStr d.i), .string (dStr d.f)] 27)).alloc (.cells #[.bool false, .string ⟨#[]⟩, .string ⟨#[]⟩] 27) := ⟨_, rfl⟩
  have hb2 : Below w.heap.size w W2 := by rw [hW2]; exact ((Below.refl _ w).alloc (Nat.le_refl _) _).alloc (by simp) _
  have hz2 : w.heap.size + 2 ≤ W2.heap.size := by rw [hW2]; simp
  have hs1 : (w.alloc (.cells #[.bool d.neg, .string (dStr d.i), .string (dStr d.f)] 27)).heap.size = w.heap.size + 1 := by simp
  have a0 : W2.cell? ⟨w.heap.size, 0, none⟩ = some (.bool d.neg) := by rw [hW2]; simp
  have a1 : W2.cell? ⟨w.heap.size, 1, none⟩ = some (.string (dStr d.i)) := by rw [hW2]; simp
  have a2 : W2.cell? ⟨w.heap.size, 2, none⟩ = some (.string (dStr d.f)) := by rw [hW2]; simp
  have t0 : W2.cell? ⟨w.heap.size + 1, 0, none⟩ = some (.bool false) := by rw [hW2, ← hs1]; simp
  have t1 : W2.cell? ⟨w.heap.size + 1, 1, none⟩ = some (.string ⟨#[]⟩) := by rw [hW2, ← hs1]; simp
  have t2 : W2.cell? ⟨w.heap.size + 1, 2, none⟩ = some (.string ⟨#[]⟩) := by rw [hW2, ← hs1]; simp
  have f0 : ∀ i, W2.frozen? ⟨w.heap.size + 1, i, none⟩ = false := by intro i; rw [hW2, ← hs1]; simp
  rw [← hW2]
  clear hW2 hs1
  go_region_held3 (fun w' => w'.cell? ⟨w.heap.size, 0, none⟩ = some (.bool d.neg) ∧ w'.cell? ⟨w.heap.size, 1, none⟩ = some (.string (dStr d.i)) ∧ w'.cell? ⟨w.heap.size, 2, none⟩ = some (.string (dStr d.f)))
    (first | exact ⟨a0, a1, a2⟩ | exact ⟨(hb1.cell (by show w.heap.size < W2.heap.size; omega)).trans a0, (hb1.cell (by show w.heap.size < W2.heap.size; omega)).trans a1, (hb1.cell (by show w.heap.size < W2.heap.size; omega)).trans a2⟩ | exact ⟨(hb4.cell (by show w.heap.size < W2.heap.size; omega)).trans a0, (hb4.cell (by show w.heap.size < W2.heap.size; omega)).trans a1, (hb4.cell (by show w.heap.size < W2.heap.size; omega)).trans a2⟩ | go_keep)
    (first
      | (go_at_call 35; refine (digitsOf_any d.neg d.i d.f d.i.length 0 scale _ HD.out.di HD.out.df hi1 (by omega) hs (by omega)).mono ?_; rintro e w1 ⟨rfl, hk1, hb1⟩)
      | (go_at_call 34; refine (decimalOf_at d.neg (placed d.i d.f d.i.length scale) (d.i.length + scale) (W2.heap.size + 1) scale _ o (by rw [placed_num]; exact HO.out) (placed_digs HD.out.di HD.out.df) (placed_len (Nat.le_refl _) hs) hk1 (by omega) (by omega)).mono ?_; rintro e w2 ⟨rfl, hb3⟩
         have hb4 : Below W2.heap.size W2 w2 := (undrew hb1).trans (hb3.mono hb1.size)
         have r0 : w2.cell? ⟨w.heap.size + 1, 0, none⟩ = some (.bool false) := (hb4.cell (by show w.heap.size + 1 < W2.heap.size; omega)).trans t0
         have r1 : w2.cell? ⟨w.heap.size + 1, 1, none⟩ = some (.string ⟨#[]⟩) := (hb4.cell (by show w.heap.size + 1 < W2.heap.size; omega)).trans t1
         have r2 : w2.cell? ⟨w.heap.size + 1, 2, none⟩ = some (.string ⟨#[]⟩) := (hb4.cell (by show w.heap.size + 1 < W2.heap.size; omega)).trans t2
         have z0 : ∀ i, w2.frozen? ⟨w.heap.size + 1, i, none⟩ = false := fun i => (hb4.frozen (by show w.heap.size + 1 < W2.heap.size; omega)).trans (f0 i)))
  obtain ⟨e0, e1, e2⟩ := res_cells r0 r1 r2 (.bool (oN o)) (.string (oI o)) (.string (oF o))
  go_wp2
  exact bodyPost_ret (v := .tuple #[.agg #[.bool (oN o), .string (oI o), .string (oF o)], .int .i64 (oE o)]) (by simp [results, Tryd.results49, go_sem, e0, e1, e2]) rfl ⟨rfl, res_below (hb2.trans (hb4.mono hb2.size)) (Nat.le_succ _) _ _ _⟩

/-- digitsOf with its places given as numbers of Go. -/
theorem digitsOf_at (n : Bool) (li lf : List Nat) (whole scale : Nat) (wI sI : Int) (w : World) (hw : wI = (whole : Int)) (hs : sI = (scale : Int)) (h1 : Digs li) (h2 : Digs lf) (l0 : 1 ≤ li.length) (l1 : li.length ≤ whole) (l2 : lf.length ≤ scale) (l3 : whole + scale ≤ 1000000) :
    Calls Tryd.prog 35 #[.agg #[.bool n, .string (dStr li), .string (dStr lf)], .int .i64 wI, .int .i64 sI] w fun e w' => e = .returned (.slice (some ⟨w.heap.size + 1, 0, none⟩) (whole + scale) (whole + scale)) ∧ Blk w' (w.heap.size + 1) (nC (placed li lf whole scale)) ∧ Below w.heap.size w w' := by
  subst hw hs
  exact digitsOf_any n li lf whole (whole - li.length) scale w h1 h2 l0 (by omega) l2 l3

/-- Two decimals' digits at one scale, in blocks of their own. -/
def Aligned (a b : Dc) (w : World) (e : Ending) (w' : World) : Prop :=
  ∃ ga gb : Nat, e = .returned (.tuple #[.slice (some ⟨ga, 0, none⟩) (1 + max a.i.length b.i.length + max a.f.length b.f.length) (1 + max a.i.length b.i.length + max a.f.length b.f.length), .slice (some ⟨gb, 0, none⟩) (1 + max a.i.length b.i.length + max a.f.length b.f.length) (1 + max a.i.length b.i.length + max a.f.length b.f.length), .int .i64 ((max a.f.length b.f.length : Nat) : Int)]) ∧
    Blk w' ga (nC (placed a.i a.f (1 + max a.i.length b.i.length) (max a.f.length b.f.length))) ∧ Blk w' gb (nC (placed b.i b.f (1 + max a.i.length b.i.length) (max a.f.length b.f.length))) ∧ Below w.heap.size w w'

set_option maxHeartbeats 4000000 in
set_option maxRecDepth 100000 in
theorem aligned_any (a b : Dc) (w : World) (ha : a.Fm) (hb : b.Fm) :
    Calls Tryd.prog 30 #[.agg #[.bool a.neg, .string (dStr a.i), .string (dStr a.f)], .agg #[.bool b.neg, .string (dStr b.i), .string (dStr b.f)]] w (Aligned a b w) := by
  have HA := Lib.hid ha
  have HB := Lib.hid hb
  have sa : (dStr a.i).size = a.i.length := dStr_size a.i
  have sb : (dStr b.i).size = b.i.length := dStr_size b.i
  have ta : (dStr a.f).size = a.f.length := dStr_size a.f
  have tb : (dStr b.f).size = b.f.length := dStr_size b.f
  have h1 := ha.most
  have h2 := hb.most
  have h3 := ha.one
  have h4 := hb.one
  have DA := Lib.hid (fun (wI sI : Int) (wx : World) (hw : wI = ((1 + max a.i.length b.i.length : Nat) : Int)) (hs : sI = ((max a.f.length b.f.length : Nat) : Int)) => digitsOf_at a.neg a.i a.f (1 + max a.i.length b.i.length) (max a.f.length b.f.length) wI sI wx hw hs ha.di ha.df h3 (by omega) (by omega) (by omega))
  have DB := Lib.hid (fun (wI sI : Int) (wx : World) (hw : wI = ((1 + max a.i.length b.i.length : Nat) : Int)) (hs : sI = ((max a.f.length b.f.length : Nat) : Int)) => digitsOf_at b.neg b.i b.f (1 + max a.i.length b.i.length) (max a.f.length b.f.length) wI sI wx hw hs hb.di hb.df h4 (by omega) (by omega) (by omega))
  clear ha hb
  go_enter Tryd.func30, Tryd.ntmps30
  go_wp2_with fail
  all_goals
    obtain ⟨W2, hW2⟩ : ∃ W2, W2 = (w.alloc (.cells #[.bool a.neg, .string (dStr a.i), .string (dStr a.f)] 27)).alloc (.cells #[.bool b.neg, .string (dStr b.i), .string (dStr b.f)] 27) := ⟨_, rfl⟩
    have hb2 : Below w.heap.size w W2 := by rw [hW2]; exact ((Below.refl _ w).alloc (Nat.le_refl _) _).alloc (by simp) _
    have hz2 : w.heap.size + 2 ≤ W2.heap.size := by rw [hW2]; simp
    have hs1 : (w.alloc (.cells #[.bool a.neg, .string (dStr a.i), .string (dStr a.f)] 27)).heap.size = w.heap.size + 1 := by simp
    have CA : Cells3 W2 w.heap.size (.bool a.neg) (.string (dStr a.i)) (.string (dStr a.f)) := by rw [hW2]; exact ⟨by simp, by simp, by simp⟩
    have CB : Cells3 W2 (w.heap.size + 1) (.bool b.neg) (.string (dStr b.i)) (.string (dStr b.f)) := by rw [hW2, ← hs1]; exact ⟨by simp, by simp, by simp⟩
    rw [← hW2]
    clear hW2 hs1
    go_region_held3 (fun w' => w'.cell? ⟨w.heap.size, 0, none⟩ = some (.bool a.neg) ∧ w'.cell? ⟨w.heap.size, 1, none⟩ = some (.string (dStr a.i)) ∧ w'.cell? ⟨w.heap.size, 2, none⟩ = some (.string (dStr a.f)) ∧ w'.cell? ⟨w.heap.size + 1, 0, none⟩ = some (.bool b.neg) ∧ w'.cell? ⟨w.heap.size + 1, 1, none⟩ = some (.string (dStr b.i)) ∧ w'.cell? ⟨w.heap.size + 1, 2, none⟩ = some (.string (dStr b.f)))
      (first
        | exact ⟨CA.1, CA.2.1, CA.2.2, CB.1, CB.2.1, CB.2.2⟩
        | (have t := CA.keep (undrew hbA) (by omega); have u := CB.keep (undrew hbA) (by omega); exact ⟨t.1, t.2.1, t.2.2, u.1, u.2.1, u.2.2⟩)
        | (have t := CA.keep (undrew hbB) (by omega); have u := CB.keep (undrew hbB) (by omega); exact ⟨t.1, t.2.1, t.2.2, u.1, u.2.1, u.2.2⟩)
        | (have v := (undrew hbA).trans (hbB.mono (undrew hbA).size); have t := CA.keep v (by omega); have u := CB.keep v (by omega); exact ⟨t.1, t.2.1, t.2.2, u.1, u.2.1, u.2.2⟩)
        | (have v := (undrew hbB).trans (hbA.mono (undrew hbB).size); have t := CA.keep v (by omega); have u := CB.keep v (by omega); exact ⟨t.1, t.2.1, t.2.2, u.1, u.2.1, u.2.2⟩))
      (first
        | (go_at_call 35; (with_reducible refine (DA.out _ _ _ ?_ ?_).mono ?_); (focus omega); (focus omega); rintro e wA ⟨rfl, hkA, hbA⟩)
        | (go_at_call 35; (with_reducible refine (DB.out _ _ _ ?_ ?_).mono ?_); (focus omega); (focus omega); rintro e wB ⟨rfl, hkB, hbB⟩))
  all_goals
    go_wp2
    first
      | exact bodyPost_ret (v := .tuple #[.slice (some ⟨W2.heap.size + 1, 0, none⟩) (1 + max a.i.length b.i.length + max a.f.length b.f.length) (1 + max a.i.length b.i.length + max a.f.length b.f.length), .slice (some ⟨wA.heap.size + 1, 0, none⟩) (1 + max a.i.length b.i.length + max a.f.length b.f.length) (1 + max a.i.length b.i.length + max a.f.length b.f.length), .int .i64 (b.f.length : Int)]) (by simp [results, Tryd.results30, go_sem]) rfl ⟨W2.heap.size + 1, wA.heap.size + 1, by rw [show ((max a.f.length b.f.length : Nat) : Int) = (b.f.length : Int) by omega], hkA.below hbB hkA.lt, hkB, hb2.trans ((undrew hbA).mono hb2.size |>.trans (hbB.mono (by have := (undrew hbA).size; have := hb2.size; omega)))⟩
      | exact bodyPost_ret (v := .tuple #[.slice (some ⟨W2.heap.size + 1, 0, none⟩) (1 + max a.i.length b.i.length + max a.f.length b.f.length) (1 + max a.i.length b.i.length + max a.f.length b.f.length), .slice (some ⟨wA.heap.size + 1, 0, none⟩) (1 + max a.i.length b.i.length + max a.f.length b.f.length) (1 + max a.i.length b.i.length + max a.f.length b.f.length), .int .i64 (a.f.length : Int)]) (by simp [results, Tryd.results30, go_sem]) rfl ⟨W2.heap.size + 1, wA.heap.size + 1, by rw [show ((max a.f.length b.f.length : Nat) : Int) = (a.f.length : Int) by omega], hkA.below hbB hkA.lt, hkB, hb2.trans ((undrew hbA).mono hb2.size |>.trans (hbB.mono (by have := (undrew hbA).size; have := hb2.size; omega)))⟩
end Go.Proofs.YtmggdnnffdaffaaDoor
