/- Spans in a row; isAtMost, isList of the program. -/
import Derived.Test.YtmggdnnffdaffaaDoorOpT
import Derived.Test.YtmggdnnffdaffaaDoorDCompare
namespace Go.Proofs.YtmggdnnffdaffaaDoor
open Go.RowKit
attribute [local go_sem ↓] Go.wp_at_zero Go.wp_at_succ

set_option maxHeartbeats 2000000 in
set_option maxRecDepth 100000 in
theorem isAtMost_any (a b : Dc) (w : World) (ha : a.Ok) (hb : b.Ok) :
    Calls Tryd.prog 45 #[.agg #[.bool a.neg, .string (dStr a.i), .string (dStr a.f)], .agg #[.bool b.neg, .string (dStr b.i), .string (dStr b.f)]] w fun e w' => e = .returned (.bool (decide (cmpD a b ≤ 0))) ∧ Below w.heap.size w w' := by
  have DC := Lib.hid (fun wx => compare_ok a b wx ha hb)
  obtain ⟨c, hc⟩ : ∃ c, c = cmpD a b := ⟨_, rfl⟩
  rw [← hc] at DC ⊢
  clear hc ha hb
  go_enter Tryd.func45, Tryd.ntmps45
  go_wp2_with fail
  obtain ⟨W2, hW2⟩ : ∃ W2, W2 = (w.alloc (.cells #[.bool a.neg, .string (dStr a.i), .string (dStr a.f)] 27)).alloc (.cells #[.bool b.neg, .string (dStr b.i), .string (dStr b.f)] 27) := ⟨_, rfl⟩
  have hb2 : Below w.heap.size w W2 := by rw [hW2]; exact below_two w _ _
  rw [← hW2]
  clear hW2
  (with_reducible refine (DC.out _).mono ?_)
  rintro e W3 ⟨rfl, hb3⟩
  have B3 := Lib.hid (hb2.trans (hb3.mono hb2.size))
  clear hb2 hb3
  go_wp2
  go_ret
  exact ⟨rfl, B3.out⟩

def dp : ByteArray × ByteArray := (⟨#[]⟩, ⟨#[]⟩)
/-- The cells of spans, one after another from the beginning of a block. -/
def Spn (W : World) (g : Nat) (l : List (ByteArray × ByteArray)) : Prop := ∀ k, k < l.length → W.cell? ⟨g, k * 2, none⟩ = some (.string (l.getD k dp).1) ∧ W.cell? ⟨g, k * 2 + 1, none⟩ = some (.string (l.getD k dp).2)
theorem Spn.keep {W w' : World} {g : Nat} {l : List (ByteArray × ByteArray)} (h : Spn W g l) (hb : Below W.heap.size W w') (hlt : g < W.heap.size) : Spn w' g l :=
  fun k hk => ⟨(hb.cell (p := ⟨g, k * 2, none⟩) hlt).trans (h k hk).1, (hb.cell (p := ⟨g, k * 2 + 1, none⟩) hlt).trans (h k hk).2⟩
theorem two_box (w : World) (a0 a1 : Value) (t : TypeId) : (w.alloc (.cells #[a0, a1] t)).cell? ⟨w.heap.size, 0, none⟩ = some a0 ∧ (w.alloc (.cells #[a0, a1] t)).cell? ⟨w.heap.size, 1, none⟩ = some a1 := ⟨by simp, by simp⟩

set_option maxHeartbeats 4000000 in
set_option maxRecDepth 100000 in
theorem isList_yes (l : List (ByteArray × ByteArray)) (g n cap : Nat) (w : World) (hs : Spn w g l) (hg : g < w.heap.size) (hl : l.length = n) (hn : 1 ≤ n) (hm : n ≤ 64)
    (HC : ∀ k, k < n → ∃ c : Int, c ≤ 0 ∧ ∀ wx : World, Calls Tryd.prog 13 #[.agg #[.bool false, .string (l.getD k dp).1, .string ⟨#[]⟩], .agg #[.bool false, .string (l.getD k dp).2, .string ⟨#[]⟩]] wx fun e w' => e = .returned (.tuple #[.int .i64 c, .int .i64 0]) ∧ Below wx.heap.size wx w') :
    Calls Tryd.prog 24 #[.slice (some ⟨g, 0, none⟩) n cap] w fun e w' => e = .returned (.bool true) ∧ Below w.heap.size w w' := by
  have HS := Lib.hid hs
  have HCC := Lib.hid HC
  have HL := Lib.hid hl
  have n0 : ((n : Int) == 0) = false := beq_eq_false_iff_ne.2 (by omega)
  have n1 : decide ((64 : Int) < (n : Int)) = false := decide_eq_false (by omega)
  clear hs HC hl
  go_enter Tryd.func24, Tryd.ntmps24
  go_wp2
  go_loopw [17] (fun i wr => ∃ k : Nat, i = .int .i64 k ∧ k ≤ n ∧ Below w.heap.size w wr) (fun i _ => n - (intOf i).toNat)
  case atStart => exact ⟨0, rfl, by omega, Below.refl _ _⟩
  case round =>
    obtain ⟨k, rfl, hk, hbw⟩ := hrel
    have HW := Lib.hid hbw
    have hz := hbw.size
    clear hbw
    by_cases hlt : k < n
    · obtain ⟨c0, c1⟩ := (HS.out.keep HW.out hg) k (by rw [HL.out]; exact hlt)
      obtain ⟨c, hc, DX0⟩ := HCC.out k hlt
      have qc : decide (0 < c) = false := decide_eq_false (by omega)
      have DX := Lib.hid DX0
      clear DX0 hc
      generalize hx : l.getD k dp = x at *
      clear hx
      obtain ⟨lo, hi⟩ := x
      simp only at c0 c1
      have DW1 := Lib.hid (fun wx => whole_any lo wx)
      have DW2 := Lib.hid (fun wx => whole_any hi wx)
      go_wp2_with fail
      obtain ⟨V, hV⟩ : ∃ V, V = wr.alloc (.cells #[.string lo, .string hi] 76) := ⟨_, rfl⟩
      obtain ⟨s0, s1⟩ := two_box wr (.string lo) (.string hi) 76
      rw [← hV] at s0 s1 ⊢
      have hbV : Below w.heap.size w V := by rw [hV]; exact HW.out.alloc HW.out.size _
      have hzV : wr.heap.size + 1 ≤ V.heap.size := by rw [hV]; simp
      have HBV := Lib.hid hbV
      have S0 := Lib.hid s0
      have S1 := Lib.hid s1
      clear hV hbV
      go_region_held3 (fun w' => w'.cell? ⟨wr.heap.size, 0, none⟩ = some (.string lo) ∧ w'.cell? ⟨wr.heap.size, 1, none⟩ = some (.string hi))
        (first
          | (with_reducible exact ⟨s0, s1⟩)
          | (with_reducible exact ⟨(drew_cell _ _).trans s0, (drew_cell _ _).trans s1⟩)
          | (have t0 := (hA.cell (p := ⟨wr.heap.size, 0, none⟩) (by show wr.heap.size < _; omega)).trans S0.out; have t1 := (hA.cell (p := ⟨wr.heap.size, 1, none⟩) (by show wr.heap.size < _; omega)).trans S1.out; with_reducible exact ⟨t0, t1⟩)
          | (have t0 := (hB.cell (p := ⟨wr.heap.size, 0, none⟩) (by show wr.heap.size < _; omega)).trans S0.out; have t1 := (hB.cell (p := ⟨wr.heap.size, 1, none⟩) (by show wr.heap.size < _; omega)).trans S1.out; with_reducible exact ⟨t0, t1⟩)
          | (have t0 := (hC.cell (p := ⟨wr.heap.size, 0, none⟩) (by show wr.heap.size < _; omega)).trans S0.out; have t1 := (hC.cell (p := ⟨wr.heap.size, 1, none⟩) (by show wr.heap.size < _; omega)).trans S1.out; with_reducible exact ⟨t0, t1⟩))
        (first
          | (go_at_call 13; (with_reducible refine (DX.out _).mono ?_); rintro e wC ⟨rfl, hbC⟩; have hC : Below V.heap.size V wC := hB.trans (hbC.mono hB.size))
          | (go_at_call 44; (with_reducible refine (DW1.out _).mono ?_); rintro e wA ⟨rfl, hbA⟩; have hA : Below V.heap.size V wA := undrew hbA)
          | (go_at_call 44; (with_reducible refine (DW2.out _).mono ?_); rintro e wB ⟨rfl, hbB⟩; have hB : Below V.heap.size V wB := hA.trans (hbB.mono hA.size)))
      have hend := Lib.hid (HBV.out.trans (hC.mono HBV.out.size))
      go_wp2
      go_roundw
      case rel => exact ⟨k + 1, by go_num, by omega, hend.out⟩
      case measure => simp [intOf]; omega
    · go_wp2
      go_ret
      exact ⟨rfl, HW.out⟩
end Go.Proofs.YtmggdnnffdaffaaDoor
