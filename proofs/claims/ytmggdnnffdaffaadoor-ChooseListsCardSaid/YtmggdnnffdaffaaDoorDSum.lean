/- sum of two decimals. -/
import Derived.Test.YtmggdnnffdaffaaDoorDBox
namespace Go.Proofs.YtmggdnnffdaffaaDoor
open Go.RowKit
attribute [local go_sem ↓] Go.wp_at_zero Go.wp_at_succ

theorem far3 (W : World) (b c i : Nat) (x y z : Value) (h : b ≠ c) : (((W.setCell ⟨c, 0, none⟩ x).setCell ⟨c, 1, none⟩ y).setCell ⟨c, 2, none⟩ z).cell? ⟨b, i, none⟩ = W.cell? ⟨b, i, none⟩ :=
  (World.cell?_setCell_other _ _ _ _ (fun e => h (congrArg Addr.block e).symm)).trans ((World.cell?_setCell_other _ _ _ _ (fun e => h (congrArg Addr.block e).symm)).trans (World.cell?_setCell_other _ _ _ _ (fun e => h (congrArg Addr.block e).symm)))
/-- There is room for a sum. -/
theorem raised_lt (a : Dc) (W s : Nat) (h : a.Fm) (h1 : a.i.length ≤ W) (h2 : a.f.length ≤ s) : a.raised s < 10 ^ (W + s) := by
  rw [← placed_num a W s]
  have := dVal_lt (placed_digs (whole := W) (scale := s) h.di h.df)
  rw [placed_len h1 h2] at this
  exact this
theorem raised_room (a b : Dc) (ha : a.Fm) (hb : b.Fm) : a.raised (max a.f.length b.f.length) + b.raised (max a.f.length b.f.length) < 10 ^ (1 + max a.i.length b.i.length + max a.f.length b.f.length) := by
  have h1 := raised_lt a (max a.i.length b.i.length) (max a.f.length b.f.length) ha (by omega) (by omega)
  have h2 := raised_lt b (max a.i.length b.i.length) (max a.f.length b.f.length) hb (by omega) (by omega)
  have e : (1 + max a.i.length b.i.length + max a.f.length b.f.length) = max a.i.length b.i.length + (max a.f.length b.f.length) + 1 := by omega
  rw [e, Nat.pow_succ]
  omega

end Go.Proofs.YtmggdnnffdaffaaDoor
