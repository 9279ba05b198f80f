/- Pad of the reference. -/
import Derived.Test.YtmggdnnffdaffaaDoorDRef2
import Derived.Test.YtmggdnnffdaffaaDoorDRefTrim
import Derived.Test.YtmggdnnffdaffaaDoorDParse
namespace Go.Proofs.YtmggdnnffdaffaaDoor
open Go.RowKit
attribute [local go_sem ↓] Go.wp_at_zero Go.wp_at_succ

def padded (d : Dc) (j : Nat) : Dc := ⟨d.neg, d.i, d.f ++ List.replicate j 0⟩
theorem pad_form {d : Dc} (hd : d.Ok) (k M : Nat) (hM : M = max d.f.length k) : padD d k = if 40 < d.i.length + M then none else some (padded d (M - d.f.length)) := by
  have hl : (padded d (M - d.f.length)).f.length = M := by show (d.f ++ List.replicate _ 0).length = M; rw [List.length_append, List.length_replicate]; omega
  have hn : (padded d (M - d.f.length)).num = d.raised M := by
    rw [← raised_digs d M, List.append_assoc]
    rfl
  have hr : (padded d (M - d.f.length)).raised M = d.raised M := by
    unfold Dc.raised
    rw [hl, hn, Nat.sub_self, Nat.pow_zero, Nat.mul_one]
    rfl
  have hg : (padded d (M - d.f.length)).Dg := ⟨hd.di, .append hd.df (.zeros _), hd.one⟩
  have := mk_form hg hd.lead (fun h => by
    rw [hn]
    have := hd.sign h
    exact Nat.ne_of_gt (Nat.mul_pos (Nat.pos_of_ne_zero this) (Nat.pow_pos (by omega))))
  rw [hl, hr] at this
  show mkN d.neg (d.raised (max d.f.length k)) (max d.f.length k) = _
  rw [← hM]
  exact this

end Go.Proofs.YtmggdnnffdaffaaDoor
