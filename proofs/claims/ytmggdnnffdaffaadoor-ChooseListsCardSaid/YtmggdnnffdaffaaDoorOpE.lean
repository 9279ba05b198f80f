/- Get of the program with the letter t; awake of the laws of layer 4. -/
import Derived.Test.YtmggdnnffdaffaaDoorOpD
import Derived.Test.YtmggdnnffdaffaaDoorDParseW
namespace Go.Proofs.YtmggdnnffdaffaaDoor
open Go.RowKit
attribute [local go_sem ↓] Go.wp_at_zero Go.wp_at_succ

theorem shift_zero {d : Dc} (h : d.Ok) : shD d 0 = some d := by
  unfold shD
  rw [if_neg (by omega), Int.sub_zero, Int.toNat_natCast]
  exact mk_ok h
theorem sh_ok {d x : Dc} {n : Int} (h : shD d n = some x) : x.Ok := by
  unfold shD at h
  split at h
  · exact (mk_some h).2.2.1
  · exact (mk_some h).2.2.1
theorem intg_lead {l : List Nat} (h : Digs l) : intg l = dLead l := (dLead_digs l h).symm
/-- A whole number without a sign. -/
theorem whole_ok (n : Nat) (h : (digs n).length ≤ 40) : (⟨false, digs n, []⟩ : Dc).Ok := by
  refine ⟨digs_digs n, .nil, digs_len n, by simpa using h, ?_, fun e => by cases e⟩
  by_cases h1 : (digs n).length = 1
  · exact .inl h1
  · right
    cases hd : digs n with
    | nil => have := digs_len n; rw [hd] at this; simp at this
    | cons x l => exact ⟨x, rfl, digs_head (by rw [hd]; rfl) (by have := digs_len n; omega)⟩
theorem parse_whole (d : Dc) (w : World) (hd : d.Ok) (hn : d.neg = false) (hf : d.f = []) :
    Calls Tryd.prog 52 #[.string (dStr d.i)] w fun e w' => e = .returned (.tuple #[.agg #[.bool false, .string (dStr d.i), .string ⟨#[]⟩], .int .i64 0]) ∧ Below w.heap.size w w' := by
  have hs : (dStr d.i).size ≤ 40 := by rw [dStr_size]; have := hd.most; omega
  have h := parse_any (dStr d.i) w (by unfold maxLen; omega)
  have e : psR (dStr d.i) = (d.rw, 0) := by
    have := prs_txt hd
    unfold psR
    rw [dStr_toList]
    unfold txt Dc.rw at this
    rw [hn, hf] at this
    simp only [dB, List.map_nil, Bool.false_eq_true, if_false, if_true, List.nil_append, List.append_nil] at this
    rw [this]
    unfold Dc.rw
    rw [hn, hf]
    rfl
  unfold psN psI psF psE at h
  rw [e] at h
  unfold Dc.rw at h
  rw [hn, hf] at h
  exact h

/-- A box of operands and, behind it, a decimal's. -/
theorem ops_dec (w : World) (x0 x1 x2 x3 x4 x5 x6 x7 x8 : Value) (t u : TypeId) :
    Below w.heap.size w ((w.alloc (.cells #[x0, x1, x2, x3, x4, x5, x6, x7, x8] t)).alloc (.cells #[.bool false, .string ⟨#[]⟩, .string ⟨#[]⟩] u)) ∧ w.heap.size + 2 ≤ ((w.alloc (.cells #[x0, x1, x2, x3, x4, x5, x6, x7, x8] t)).alloc (.cells #[.bool false, .string ⟨#[]⟩, .string ⟨#[]⟩] u)).heap.size ∧ Cells9 ((w.alloc (.cells #[x0, x1, x2, x3, x4, x5, x6, x7, x8] t)).alloc (.cells #[.bool false, .string ⟨#[]⟩, .string ⟨#[]⟩] u)) w.heap.size x0 x1 x2 x3 x4 x5 x6 x7 x8 ∧ Cells3 ((w.alloc (.cells #[x0, x1, x2, x3, x4, x5, x6, x7, x8] t)).alloc (.cells #[.bool false, .string ⟨#[]⟩, .string ⟨#[]⟩] u)) (w.heap.size + 1) (.bool false) (.string ⟨#[]⟩) (.string ⟨#[]⟩) ∧ ∀ j, ((w.alloc (.cells #[x0, x1, x2, x3, x4, x5, x6, x7, x8] t)).alloc (.cells #[.bool false, .string ⟨#[]⟩, .string ⟨#[]⟩] u)).frozen? ⟨w.heap.size + 1, j, none⟩ = false := by
  obtain ⟨s1, c1, f1⟩ := nine_box w x0 x1 x2 x3 x4 x5 x6 x7 x8 t
  obtain ⟨s2, c2, f2⟩ := one_box (w.alloc (.cells #[x0, x1, x2, x3, x4, x5, x6, x7, x8] t)) (.bool false) (.string ⟨#[]⟩) (.string ⟨#[]⟩) u
  have hs : (w.alloc (.cells #[x0, x1, x2, x3, x4, x5, x6, x7, x8] t)).heap.size = w.heap.size + 1 := by simp
  rw [hs] at c2 f2 s2
  exact ⟨below_two w _ _, s2, c1.keep ((Below.refl _ _).alloc (Nat.le_refl _) _) (by omega), c2, f2⟩

set_option maxHeartbeats 4000000 in
set_option maxRecDepth 100000 in
theorem get_t (x t : Dc) (k : Int) (w : World) (hx : x.Ok) (hn : x.neg = false) (hk1 : 0 ≤ k) (hk2 : k ≤ 40) (ht : trimD x = t) :
    Calls Tryd.prog 42 #[.agg #[.bool false, .string (dStr t.i), .string (dStr t.f), .string (dStr x.i), .int .i64 x.f.length, .int .i64 t.f.length, .string (dStr (intg x.f)), .string (dStr (intg t.f)), .int .i64 k], .string ⟨#[116]⟩] w fun e w' => e = .returned (.tuple #[.agg #[.bool false, .string (dStr (intg t.f)), .string ⟨#[]⟩], .int .i64 0]) ∧ Below w.heap.size w w' := by
  have DC := Lib.hid (fun wx => ocheck_ok x t k wx hx hn hk1 hk2 ht)
  obtain ⟨hto, htn, htp⟩ := trim_pad hx hn ht
  have hl : (digs (dVal t.f)).length ≤ 40 := (digs_le _ 40 (by omega)).2 (by
    have h1 := dVal_lt hto.df
    have h2 : 10 ^ t.f.length ≤ 10 ^ 40 := Nat.pow_le_pow_right (by omega) (by have := hto.most; omega)
    omega)
  have DP : Hid (∀ wx : World, Calls Tryd.prog 52 #[.string (dStr (intg t.f))] wx fun e w' => e = .returned (.tuple #[.agg #[.bool false, .string (dStr (intg t.f)), .string ⟨#[]⟩], .int .i64 0]) ∧ Below wx.heap.size wx w') := fun wx => parse_whole ⟨false, intg t.f, []⟩ wx (whole_ok _ hl) rfl rfl
  clear hx hn ht hto htn htp hl
  go_enter Tryd.func42, Tryd.ntmps42
  go_wp2_with fail
  obtain ⟨W2, hW2⟩ : ∃ W2, W2 = (w.alloc (.cells #[.bool false, .string (dStr t.i), .string (dStr t.f), .string (dStr x.i), .int .i64 x.f.length, .int .i64 t.f.length, .string (dStr (intg x.f)), .string (dStr (intg t.f)), .int .i64 k] 30)).alloc (.cells #[.bool false, .string ⟨#[]⟩, .string ⟨#[]⟩] 27) := ⟨_, rfl⟩
  obtain ⟨hb2, hz2, CA, CR, FR⟩ := ops_dec w (.bool false) (.string (dStr t.i)) (.string (dStr t.f)) (.string (dStr x.i)) (.int .i64 x.f.length) (.int .i64 t.f.length) (.string (dStr (intg x.f))) (.string (dStr (intg t.f))) (.int .i64 k) 30 27
  rw [← hW2] at hb2 hz2 CA CR FR ⊢
  clear hW2
  (with_reducible refine (DC.out _).mono ?_)
  rintro e W3 ⟨rfl, hb3⟩
  have CA3 := CA.keep hb3 (by omega)
  have CR3 := Lib.hid (CR.keep hb3 (by omega))
  have FR3 := Lib.hid (frozen_keep FR hb3 (by omega))
  have hz3 : w.heap.size + 2 ≤ W3.heap.size := by have := hb3.size; omega
  have B3 := Lib.hid (hb2.trans (hb3.mono hb2.size))
  clear hb3 hb2 CA CR FR hz2
  obtain ⟨a0, a1, a2, a3, a4, a5, a6, a7, a8⟩ := CA3
  go_wp2_with fail
  (with_reducible refine (DP.out _).mono ?_)
  rintro e W4 ⟨rfl, hb4⟩
  obtain ⟨r0, r1, r2⟩ := CR3.out.keep hb4 (by omega)
  have z0 := frozen_keep FR3.out hb4 (by omega)
  obtain ⟨e0, e1, e2⟩ := res_cells r0 r1 r2 (.bool false) (.string (dStr (intg t.f))) (.string ⟨#[]⟩)
  have B4 := Lib.hid (B3.out.trans (hb4.mono B3.out.size))
  clear hb4 a0 a1 a2 a3 a4 a5 a6 a7 a8
  go_wp2
  exact bodyPost_ret (v := .tuple #[.agg #[.bool false, .string (dStr (intg t.f)), .string ⟨#[]⟩], .int .i64 0]) (by simp [results, Tryd.results42, go_sem, e0, e1, e2]) rfl ⟨rfl, res_below B4.out (by omega) _ _ _⟩

end Go.Proofs.YtmggdnnffdaffaaDoor
