/- OperandLost: by cases. -/
import Derived.Test.YtcdmanhhddcmcaaLawLost
import Derived.Test.YtcdmanhhddcmcaaOpG
namespace Go.Proofs.Ytcdmanhhddcmcaa
open Go.RowKit
theorem lost_walk (an : Bool) (ai af : ByteArray) (bn : Bool) (bi bf : ByteArray) (j k : Int) (w : World) (h1 : ai.size ≤ 140737488355328) (h2 : af.size ≤ 140737488355328) (h3 : bi.size ≤ 140737488355328) (h4 : bf.size ≤ 140737488355328) (_h5 : -9223372036854775808 ≤ j) (_h6 : j ≤ 9223372036854775807) (_h7 : -9223372036854775808 ≤ k) (_h8 : k ≤ 9223372036854775807) :
    Calls Try.prog 9 #[.agg #[.bool an, .string ai, .string af], .agg #[.bool bn, .string bi, .string bf], .int .i64 j, .int .i64 k] w fun e w' => e = .returned (.bool true) ∧ Below w.heap.size w w' := by
  rcases of_cases an ai af j h1 h2 with ⟨c, hc, -, HA⟩ | ⟨d, x, hd, rfl, rfl, rfl, hj1, hj2, hx, hxo⟩
  · have q : (c == 0) = false := by rcases hc with rfl | rfl | rfl <;> rfl
    rcases of_cases bn bi bf k h3 h4 with ⟨c2, -, -, HB⟩ | ⟨d2, x2, hd2, rfl, rfl, rfl, hk1, hk2, hx2, hxo2⟩
    · exact lost_e (H1 := HA) (H2 := HB) (he := q) (w := w) (j := j) (k := k)
    · exact lost_e (H1 := HA) (H2 := of_told hd2 hxo2 hk1 hk2 hx2) (he := q) (w := w) (j := j) (k := k)
  rcases of_cases bn bi bf k h3 h4 with ⟨c2, hc, -, HB⟩ | ⟨d2, x2, hd2, rfl, rfl, rfl, hk1, hk2, hx2, hxo2⟩
  · have q : (c2 == 0) = false := by rcases hc with rfl | rfl | rfl <;> rfl
    exact lost_f (H1 := of_told hd hxo hj1 hj2 hx) (H2 := HB) (hf := q) (w := w) (j := j) (k := k)
  have A1 := of_told hd hxo hj1 hj2 hx
  have A2 := of_told hd2 hxo2 hk1 hk2 hx2
  have A3 := shift_told hd hj1 hj2 hx
  have A4 := shift_told hd2 hk1 hk2 hx2
  by_cases hi : x.i = x2.i
  · by_cases hf : x.f = x2.f
    · have hcut : cutF x = cutF x2 := by unfold cutF; rw [hf]
      rw [hi, hf, hcut] at A1
      rw [hi, hf] at A3
      by_cases hjk : j = k
      · subst hjk
        exact lost_s1 (H1 := A1) (H2 := A2) (H3 := A3) (H4 := A4) (w := w) (j := j)
      · exact lost_s2 (H1 := A1) (H2 := A2) (H3 := A3) (H4 := A4) (w := w) (j := j) (k := k) (q0 := beq_eq_false_iff_ne.2 hjk)
    · have hne := toList_ne (fun e => hf (dStr_inj hxo.df hxo2.df e))
      rw [hi] at A1 A3
      by_cases hl : x.f.length = x2.f.length
      · exact lost_n3 (H1 := A1) (H2 := A2) (H3 := A3) (H4 := A4) (w := w) (j := j) (k := k) (q0 := hne) (q1 := toList_ne (fun e => hf (dVal_inj hxo.df hxo2.df hl (digs_inj (dStr_inj (digs_digs _) (digs_digs _) e)))))
      · exact lost_n2 (H1 := A1) (H2 := A2) (H3 := A3) (H4 := A4) (w := w) (j := j) (k := k) (q0 := hne) (q1 := beq_eq_false_iff_ne.2 (by omega))
  · exact lost_n1 (H1 := A1) (H2 := A2) (H3 := A3) (H4 := A4) (w := w) (j := j) (k := k) (q0 := toList_ne (fun e => hi (dStr_inj hxo.di hxo2.di e)))
end Go.Proofs.Ytcdmanhhddcmcaa
