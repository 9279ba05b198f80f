/- OperandParts by cases. -/
import Derived.Test.YtcdmanhhddcmcaaLawPar
namespace Go.Proofs.Ytcdmanhhddcmcaa
open Go.RowKit
theorem par_walk (n : Bool) (i f : ByteArray) (k : Int) (w : World) (h1 : i.size ≤ 140737488355328) (h2 : f.size ≤ 140737488355328) (_h3 : -9223372036854775808 ≤ k) (_h4 : k ≤ 9223372036854775807) :
    Calls Try.prog 5 #[.agg #[.bool n, .string i, .string f], .int .i64 k] w fun e w' => e = .returned (.bool true) ∧ Below w.heap.size w w' := by
  rcases of_cases n i f k h1 h2 with ⟨c, hc, -, HA⟩ | ⟨d, x, hd, rfl, rfl, rfl, hk1, hk2, hx, hxo⟩
  · have q : (c == 0) = false := by rcases hc with rfl | rfl | rfl <;> rfl
    exact par_err (H1 := HA) (hc := q) (w := w) (n := k)
  have A1 := of_told hd hxo hk1 hk2 hx
  have A2 := shift_told hd hk1 hk2 hx
  have A3 : ∀ wx : World, _ := fun wx => part_any x.f wx hxo.df (by have := hxo.most; omega)
  obtain ⟨hto, htn, htp⟩ := trim_pad (absX_ok hxo) rfl (absX_trim x)
  have hV : x.f.length ≤ 40 := by have := hxo.most; omega
  have A5 : ∀ wx : World, Calls Try.prog 21 #[.agg #[.bool false, .string (dStr x.i), .string (dStr (cutF x))], .int .i64 (x.f.length : Int)] wx fun e w' => e = .returned (.tuple #[.agg #[.bool false, .string (dStr x.i), .string (dStr x.f)], .int .i64 0]) ∧ Below wx.heap.size wx w' := fun wx => pad_ok ⟨false, x.i, cutF x⟩ x.f.length wx (some (absX x)) htp hto hV
  have hl : (cutF x).length ≤ x.f.length := by unfold cutF; rw [List.length_take]; omega
  by_cases he : (cutF x).length = x.f.length
  · have hcut : cutF x = x.f := by
      unfold cutF at he ⊢
      rw [List.length_take] at he
      exact List.take_of_length_le (by omega)
    rw [hcut] at A1 A5
    exact par_same (H1 := A1) (H2 := A2) (H3 := A3) (H4 := A3) (H5 := A5) (w := w) (n := k) (hV := hV)
  · have A4 : ∀ wx : World, _ := fun wx => part_any (cutF x) wx hto.df (by omega)
    exact par_diff (H1 := A1) (H2 := A2) (H3 := A3) (H4 := A4) (H5 := A5) (w := w) (n := k) (hV := hV) (hW := by omega)
end Go.Proofs.Ytcdmanhhddcmcaa
