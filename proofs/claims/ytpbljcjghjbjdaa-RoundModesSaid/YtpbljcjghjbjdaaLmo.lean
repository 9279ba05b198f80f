/- RoundModes: the mathematics, a row of nine decimals, the walks. -/
import Derived.Test.YtpbljcjghjbjdaaRoPair
import Derived.Test.YtpbljcjghjbjdaaRoAwake
import Derived.Test.YtpbljcjghjbjdaaDRefCompare
import Derived.Test.YtpbljcjghjbjdaaRnUnit
namespace Go.Proofs.Ytpbljcjghjbjdaa
open Go.RowKit

/-- The plain numbers: away, ahead, and each half mode one of floor and ceiling. -/
theorem modes_num (neg : Bool) (X U : Nat) (hU : 0 < U) :
    X / U * U ≤ X ∧ roQ 2 neg X U = X / U ∧ (X % U = 0 → ∀ k : Int, roQ k neg X U = X / U) ∧
    (X % U ≠ 0 → roQ 1 neg X U = X / U + 1 ∧ X < (X / U + 1) * U ∧ roQ 3 neg X U = (if neg then X / U else X / U + 1) ∧ roQ 4 neg X U = (if neg then X / U + 1 else X / U)) ∧
    (∀ k : Int, roQ k neg X U = roQ 3 neg X U ∨ roQ k neg X U = roQ 4 neg X U) := by
  have e := Nat.div_add_mod X U
  have hm := Nat.mod_lt X hU
  rw [Nat.mul_comm] at e
  unfold roQ
  generalize X / U = q at *
  generalize X % U = r at *
  refine ⟨by omega, ?_, ?_, ?_, ?_⟩
  · cases neg <;> simp [upB]
  · intro h0 k
    rw [h0]
    simp
  · intro h0
    refine ⟨by simp [upB, h0], ?_, ?_, ?_⟩
    · rw [Nat.add_mul, Nat.one_mul]; omega
    · cases neg <;> simp [upB, h0]
    · cases neg <;> simp [upB, h0]
  · intro k
    by_cases h0 : r = 0
    · left; rw [h0]; simp
    · have h3 : ∀ o c, upB 3 neg o c = !neg := fun o c => by cases neg <;> simp [upB]
      have h4 : ∀ o c, upB 4 neg o c = neg := fun o c => by cases neg <;> simp [upB]
      rw [h3, h4]
      generalize upB k neg _ _ = b
      cases neg <;> cases b <;> simp
/-- How two decimals stand, told by their numbers at one scale. -/
theorem cmp_scale (a b : Dc) (s : Nat) (ha : a.f.length ≤ s) (hb : b.f.length ≤ s) : cmpD a b = (a.up s - b.up s).sign := cmp_sign a b s ha hb
/-- What a rounded decimal is at the number's own scale. -/
theorem rounded_up {neg : Bool} {Q m s : Nat} {x : Dc} (h : mkN neg Q m = some x) : x.Ok ∧ x.f.length = m ∧ x.num = Q ∧ x.up s = if neg then -((Q * 10 ^ (s - m) : Nat) : Int) else ((Q * 10 ^ (s - m) : Nat) : Int) := by
  obtain ⟨z1, z2, z3, z4, z5⟩ := mk_some h
  refine ⟨z3, z2, z4.trans (absN neg Q), ?_⟩
  unfold Dc.up
  rw [z1, z2]
  cases neg
  · simp
  · simp [Int.neg_mul]
theorem sgn_le {a b : Int} (h : a ≤ b) : (a - b).sign ≤ 0 := by
  by_cases e : a = b
  · rw [e, Int.sub_self]; decide
  · rw [Int.sign_eq_neg_one_of_neg (by omega)]; decide
theorem sgn_ge {a b : Int} (h : b ≤ a) : 0 ≤ (a - b).sign := by
  by_cases e : a = b
  · rw [e, Int.sub_self]; decide
  · rw [Int.sign_eq_one_of_pos (by omega)]; decide
def worthD (x : Dc) : Dc := ⟨false, x.i, x.f⟩
theorem worth_ok {x : Dc} (h : x.Ok) : (worthD x).Ok := ⟨h.di, h.df, h.one, h.most, h.lead, fun e => by cases e⟩
theorem worth_up (x : Dc) (s : Nat) : (worthD x).up s = ((x.num * 10 ^ (s - x.f.length) : Nat) : Int) := by
  show (((worthD x).num : Nat) : Int) * 10 ^ (s - x.f.length) = _
  simp
  rfl
/-- How a number's eight roundings lie about it. -/
theorem modes_dec (d : Dc) (m : Nat) (hd : d.Ok) (hm : m ≤ 40) : ∃ X : Int → Dc,
    (∀ k : Int, 1 ≤ k → k ≤ 7 → (X k).Ok ∧ PlP k m d.neg (dStr d.i) (dStr d.f) (RES (some (X k)))) ∧
    cmpD (X 4) d ≤ 0 ∧ 0 ≤ cmpD (X 3) d ∧ cmpD (worthD (X 2)) (worthD d) ≤ 0 ∧ 0 ≤ cmpD (worthD (X 1)) (worthD d) ∧
    (∀ k : Int, X k = X 4 ∨ X k = X 3) ∧
    ((cmpD (X 4) (X 3) = 0 ∧ ∃ y, PlP 8 m d.neg (dStr d.i) (dStr d.f) (RES (some y))) ∨ (cmpD (X 4) (X 3) ≠ 0 ∧ PlP 8 m d.neg (dStr d.i) (dStr d.f) (zeroV 31))) := by
  by_cases hle : d.f.length ≤ m
  · have hz : ∀ x : Dc, cmpD x x = 0 := fun x => by rw [cmp_scale x x x.f.length (Nat.le_refl _) (Nat.le_refl _), Int.sub_self]; rfl
    refine ⟨fun _ => d, fun k k1 k7 => ⟨hd, ((places_ok d k m hd k1 (by omega) hm).1 hle).1⟩, Int.le_of_eq (hz d), Int.le_of_eq (hz d).symm, Int.le_of_eq (hz _), Int.le_of_eq (hz _).symm, fun k => .inl rfl, .inl ⟨hz d, d, ((places_ok d 8 m hd (by omega) (by omega) hm).1 hle).1⟩⟩
  obtain ⟨U, hU⟩ : ∃ U, U = 10 ^ (d.f.length - m) := ⟨_, rfl⟩
  have U0 : 0 < U := by rw [hU]; exact Nat.pow_pos (by omega)
  obtain ⟨X, hX⟩ : ∃ X : Int → Dc, ∀ k, X k = (mkN d.neg (roQ k d.neg d.num U) m).getD d := ⟨_, fun _ => rfl⟩
  have hS : ∀ k : Int, 1 ≤ k → k ≤ 7 → mkN d.neg (roQ k d.neg d.num U) m = some (X k) ∧ PlP k m d.neg (dStr d.i) (dStr d.f) (RES (some (X k))) := by
    intro k k1 k7
    obtain ⟨x, x1, x2, -⟩ := (places_ok d k m hd k1 (by omega) hm).2.2 hle (fun c => by have := c.1; omega)
    rw [← hU] at x1
    have e : X k = x := by rw [hX, x1]; rfl
    rw [e]
    exact ⟨x1, x2⟩
  have up := fun k k1 k7 => rounded_up (hS k k1 k7).1 (s := d.f.length)
  have du : d.up d.f.length = if d.neg then -(d.num : Int) else (d.num : Int) := by
    unfold Dc.up Dc.z
    rw [Nat.sub_self, Int.pow_zero, Int.mul_one]
  have dw : (worthD d).up d.f.length = (d.num : Int) := by rw [worth_up, Nat.sub_self, Nat.pow_zero, Nat.mul_one]
  have ww := fun k k1 k7 => show (worthD (X k)).up d.f.length = ((roQ k d.neg d.num U * U : Nat) : Int) by rw [worth_up, (up k k1 k7).2.1, (up k k1 k7).2.2.1, hU]
  obtain ⟨n1, n2, n3, n4, n5⟩ := modes_num d.neg d.num U U0
  have hdm := Nat.div_add_mod d.num U
  rw [Nat.mul_comm] at hdm
  have e4 := (up 4 (by omega) (by omega)).2.2.2
  have e3 := (up 3 (by omega) (by omega)).2.2.2
  rw [← hU] at e4 e3
  have w2 := ww 2 (by omega) (by omega)
  have w1 := ww 1 (by omega) (by omega)
  have l4 := (up 4 (by omega) (by omega)).2.1
  have l3 := (up 3 (by omega) (by omega)).2.1
  have l2 := (up 2 (by omega) (by omega)).2.1
  have l1 := (up 1 (by omega) (by omega)).2.1
  have hf4 : (X 4).f.length ≤ d.f.length := by omega
  have hf3 : (X 3).f.length ≤ d.f.length := by omega
  have c4 := cmp_scale (X 4) d d.f.length hf4 (Nat.le_refl _)
  have c3 := cmp_scale (X 3) d d.f.length hf3 (Nat.le_refl _)
  have c43 := cmp_scale (X 4) (X 3) d.f.length hf4 hf3
  have c2 := cmp_scale (worthD (X 2)) (worthD d) d.f.length (by show (X 2).f.length ≤ _; omega) (Nat.le_refl _)
  have c1 := cmp_scale (worthD (X 1)) (worthD d) d.f.length (by show (X 1).f.length ≤ _; omega) (Nat.le_refl _)
  rw [w2, dw, n2] at c2
  rw [w1, dw] at c1
  rw [e4, du] at c4
  rw [e3, du] at c3
  rw [e4, e3] at c43
  have hall : ∀ k : Int, X k = X 4 ∨ X k = X 3 := fun k => by
    rcases n5 k with h | h
    · right; rw [hX, hX 3, h]
    · left; rw [hX, hX 4, h]
  refine ⟨X, fun k k1 k7 => ⟨(up k k1 k7).1, (hS k k1 k7).2⟩, ?_, ?_, by rw [c2]; exact sgn_le (by omega), ?_, hall, ?_⟩
  · rw [c4]
    by_cases h0 : d.num % U = 0
    · rw [n3 h0 4]
      have hA : d.num / U * U = d.num := by omega
      rw [hA]
      exact sgn_le (Int.le_refl _)
    · obtain ⟨-, t2, -, t4⟩ := n4 h0
      rw [t4]
      by_cases hn : d.neg = true
      · rw [if_pos hn, if_pos hn, if_pos hn]
        exact sgn_le (by omega)
      · rw [if_neg hn, if_neg hn, if_neg hn]
        exact sgn_le (by omega)
  · rw [c3]
    by_cases h0 : d.num % U = 0
    · rw [n3 h0 3]
      have hA : d.num / U * U = d.num := by omega
      rw [hA]
      exact sgn_ge (Int.le_refl _)
    · obtain ⟨-, t2, t3, -⟩ := n4 h0
      rw [t3]
      by_cases hn : d.neg = true
      · rw [if_pos hn, if_pos hn, if_pos hn]
        exact sgn_ge (by omega)
      · rw [if_neg hn, if_neg hn, if_neg hn]
        exact sgn_ge (by omega)
  · rw [c1]
    by_cases h0 : d.num % U = 0
    · rw [n3 h0 1]
      have hA : d.num / U * U = d.num := by omega
      rw [hA]
      exact sgn_ge (Int.le_refl _)
    · obtain ⟨t1, t2, -, -⟩ := n4 h0
      rw [t1]
      exact sgn_ge (by omega)
  · obtain ⟨-, p2, p3⟩ := places_ok d 8 m hd (by omega) (by omega) hm
    rw [← hU] at p2 p3
    by_cases h0 : d.num % U = 0
    · obtain ⟨y, -, y2, -⟩ := p3 hle (fun c => c.2 h0)
      refine .inl ⟨?_, y, y2⟩
      rw [c43, n3 h0 4, n3 h0 3, Int.sub_self]
      rfl
    · refine .inr ⟨?_, (p2 hle ⟨rfl, h0⟩).1⟩
      obtain ⟨-, -, t3, t4⟩ := n4 h0
      have hB : (d.num / U + 1) * U = d.num / U * U + U := by rw [Nat.add_mul, Nat.one_mul]
      rw [c43, t3, t4]
      by_cases hn : d.neg = true
      · rw [if_pos hn, if_pos hn, if_pos hn, if_pos hn, Int.sign_eq_neg_one_of_neg (by omega)]
        decide
      · rw [if_neg hn, if_neg hn, if_neg hn, if_neg hn, Int.sign_eq_neg_one_of_neg (by omega)]
        decide
attribute [local go_sem ↓] Go.wp_at_zero Go.wp_at_succ

/-- A row of nine decimals in one block. -/
def Row9 (W : World) (b : Nat) (f : Nat → Dc) : Prop := ∀ k, k < 9 → W.cell? ⟨b, k * 3, none⟩ = some (.bool (f k).neg) ∧ W.cell? ⟨b, k * 3 + 1, none⟩ = some (.string (dStr (f k).i)) ∧ W.cell? ⟨b, k * 3 + 2, none⟩ = some (.string (dStr (f k).f))
theorem Row9.keep {W w' : World} {b : Nat} {f : Nat → Dc} (h : Row9 W b f) (hb : Below W.heap.size W w') (hlt : b < W.heap.size) : Row9 w' b f :=
  fun k hk => ⟨(hb.cell (p := ⟨b, k * 3, none⟩) hlt).trans (h k hk).1, (hb.cell (p := ⟨b, k * 3 + 1, none⟩) hlt).trans (h k hk).2.1, (hb.cell (p := ⟨b, k * 3 + 2, none⟩) hlt).trans (h k hk).2.2⟩
theorem Row9.put {W : World} {b : Nat} {f : Nat → Dc} (h : Row9 W b f) (m : Nat) (hm : m < 9) (x : Dc) (g : Nat → Dc) (hg : ∀ k, g k = if k = m then x else f k) :
    Row9 (((W.setCell ⟨b, m * 3, none⟩ (.bool x.neg)).setCell ⟨b, m * 3 + 1, none⟩ (.string (dStr x.i))).setCell ⟨b, m * 3 + 2, none⟩ (.string (dStr x.f))) b g := by
  intro k hk
  obtain ⟨h0, h1, h2⟩ := h k hk
  rw [hg]
  by_cases e : k = m
  · subst e
    rw [if_pos rfl]
    exact ⟨cell_set_far _ _ _ _ _ _ (by omega) (cell_set_far _ _ _ _ _ _ (by omega) (cell_set_same _ _ _ _ h0)), cell_set_far _ _ _ _ _ _ (by omega) (cell_set_same _ _ _ _ (cell_set_far _ _ _ _ _ _ (by omega) h1)), cell_set_same _ _ _ _ (cell_set_far _ _ _ _ _ _ (by omega) (cell_set_far _ _ _ _ _ _ (by omega) h2))⟩
  · rw [if_neg e]
    exact ⟨cell_set_far _ _ _ _ _ _ (by omega) (cell_set_far _ _ _ _ _ _ (by omega) (cell_set_far _ _ _ _ _ _ (by omega) h0)), cell_set_far _ _ _ _ _ _ (by omega) (cell_set_far _ _ _ _ _ _ (by omega) (cell_set_far _ _ _ _ _ _ (by omega) h1)), cell_set_far _ _ _ _ _ _ (by omega) (cell_set_far _ _ _ _ _ _ (by omega) (cell_set_far _ _ _ _ _ _ (by omega) h2))⟩

theorem dec_info : (Try.prog.info? 23).map (fun i => (i.zero, i.size, i.bytes)) = some (some (.agg #[.bool false, .string ⟨#[]⟩, .string ⟨#[]⟩]), 3, 40) := by kernel_rfl
def zeros27 : Array Value := madeCells #[.bool false, .string ⟨#[]⟩, .string ⟨#[]⟩] 27
theorem make9 (w : World) : (Instr.makeSlice 24 (.int .i64 9) (.int .i64 9)).run Try.prog w = .ok (.slice (some ⟨w.heap.size, 0, none⟩) 9 9) (w.alloc (.cells zeros27 23)) := by
  obtain ⟨i, hi, hzz⟩ := Option.map_eq_some_iff.1 dec_info
  simp only [Prod.mk.injEq] at hzz
  obtain ⟨hz, hs, hb⟩ := hzz
  have hr := run_make (P := Try.prog) w 24 23 i _ Try.underlying24 hi hz .i64 .i64 9 9 (by omega) (Int.le_refl _) (by rw [hb]; decide) (by omega)
  rw [hs] at hr
  exact hr
def zeroD : Dc := ⟨false, [], []⟩
theorem made9 (w : World) : Row9 (w.alloc (.cells zeros27 23)) w.heap.size (fun _ => zeroD) := by
  intro k hk
  have e : zeros27 = #[.bool false, .string ⟨#[]⟩, .string ⟨#[]⟩, .bool false, .string ⟨#[]⟩, .string ⟨#[]⟩, .bool false, .string ⟨#[]⟩, .string ⟨#[]⟩, .bool false, .string ⟨#[]⟩, .string ⟨#[]⟩, .bool false, .string ⟨#[]⟩, .string ⟨#[]⟩, .bool false, .string ⟨#[]⟩, .string ⟨#[]⟩, .bool false, .string ⟨#[]⟩, .string ⟨#[]⟩, .bool false, .string ⟨#[]⟩, .string ⟨#[]⟩, .bool false, .string ⟨#[]⟩, .string ⟨#[]⟩] := by kernel_rfl
  rw [e]
  have hd : dStr [] = ⟨#[]⟩ := rfl
  match k, hk with
  | 0, _ => exact ⟨by simp [zeroD], by simp [zeroD, hd], by simp [zeroD, hd]⟩
  | 1, _ => exact ⟨by simp [zeroD], by simp [zeroD, hd], by simp [zeroD, hd]⟩
  | 2, _ => exact ⟨by simp [zeroD], by simp [zeroD, hd], by simp [zeroD, hd]⟩
  | 3, _ => exact ⟨by simp [zeroD], by simp [zeroD, hd], by simp [zeroD, hd]⟩
  | 4, _ => exact ⟨by simp [zeroD], by simp [zeroD, hd], by simp [zeroD, hd]⟩
  | 5, _ => exact ⟨by simp [zeroD], by simp [zeroD, hd], by simp [zeroD, hd]⟩
  | 6, _ => exact ⟨by simp [zeroD], by simp [zeroD, hd], by simp [zeroD, hd]⟩
  | 7, _ => exact ⟨by simp [zeroD], by simp [zeroD, hd], by simp [zeroD, hd]⟩
  | 8, _ => exact ⟨by simp [zeroD], by simp [zeroD, hd], by simp [zeroD, hd]⟩

set_option maxHeartbeats 4000000 in
set_option maxRecDepth 100000 in
theorem rm_err (an : Bool) (ai af : ByteArray) (most : Int) (yn : Bool) (yi yf : ByteArray) (c : Int) (w : World)
    (H1 : (∀ wx : World, Calls Try.prog 5 #[(.agg #[.bool an, .string ai, .string af]), .int .i64 1, .int .i64 most] wx fun e w' => e = .returned (.tuple #[.agg #[.bool yn, .string yi, .string yf], .int .i64 c]) ∧ Below wx.heap.size wx w'))
    (H2 : (∀ wx : World, Calls Try.prog 6 #[(.agg #[.bool an, .string ai, .string af]), .int .i64 1, .int .i64 most] wx fun e w' => e = .returned (.tuple #[.agg #[.bool yn, .string yi, .string yf], .int .i64 c]) ∧ Below wx.heap.size wx w'))
    (hc : (c != 0) = true) :
    Calls Try.prog 3 #[(.agg #[.bool an, .string ai, .string af]), .int .i64 most] w fun e w' => e = .returned (.bool true) ∧ Below w.heap.size w w' := by
  have D1 := Lib.hid H1
  have D2 := Lib.hid H2
  have DW := Lib.hid rawake_any
  have q4 : (c == c) = true := beq_self_eq_true _
  clear H1 H2
  go_enter Try.func3, Try.ntmps3
  go_wp2_with fail
  have hmk := fun wx => make9 wx
  rw [hmk]
  clear hmk
  obtain ⟨W0, hW0⟩ : ∃ W0, W0 = (w.alloc (.cells #[.bool an, .string ai, .string af] 23)).alloc (.cells zeros27 23) := ⟨_, rfl⟩
  obtain ⟨hB, hz, C0, hR, FR⟩ : Below w.heap.size w W0 ∧ w.heap.size + 2 ≤ W0.heap.size ∧ Cells3 W0 w.heap.size (.bool an) (.string ai) (.string af) ∧ Row9 W0 (w.heap.size + 1) (fun _ => zeroD) ∧ ∀ i, W0.frozen? ⟨w.heap.size + 1, i, none⟩ = false := by
    rw [hW0]
    have b1 : Below w.heap.size w (w.alloc (.cells #[.bool an, .string ai, .string af] 23)) := (Below.refl _ w).alloc (Nat.le_refl _) _
    obtain ⟨h1, h2, h3⟩ := one_box w (.bool an) (.string ai) (.string af) 23
    have ba : Below (w.alloc (.cells #[.bool an, .string ai, .string af] 23)).heap.size (w.alloc (.cells #[.bool an, .string ai, .string af] 23)) ((w.alloc (.cells #[.bool an, .string ai, .string af] 23)).alloc (.cells zeros27 23)) := (Below.refl _ _).alloc (Nat.le_refl _) _
    have hs : (w.alloc (.cells #[.bool an, .string ai, .string af] 23)).heap.size = w.heap.size + 1 := by simp
    have h9 := made9 (w.alloc (.cells #[.bool an, .string ai, .string af] 23))
    rw [hs] at h9
    exact ⟨b1.trans (ba.mono b1.size), by simp, h2.keep ba (by omega), h9, fun i => by simp⟩
  have z0 : w.heap.size + 1 ≤ W0.heap.size := by omega
  rw [← hW0]
  have hsz : (w.alloc (.cells #[.bool an, .string ai, .string af] 23)).heap.size = w.heap.size + 1 := by simp
  rw [hsz]
  have HB := Lib.hid hB
  clear hW0 hB hsz hz FR hR
  go_wp2_with fail
  go_loopw [6] (fun i wr => i = .int .i64 1 ∧ wr = W0) (fun _ _ => 0)
  case atStart => exact ⟨rfl, rfl⟩
  case round =>
    obtain ⟨rfl, rfl⟩ := hrel
    have o00 := C0.1
    have o01 := C0.2.1
    have o02 := C0.2.2
    go_wp2_with fail
    clear o00 o01 o02
    (with_reducible refine (D1.out _).mono ?_)
    rintro e V1 ⟨rfl, hb⟩
    replace C0 := C0.keep hb (by omega)
    replace z0 : w.heap.size + 1 ≤ V1.heap.size := by have := hb.size; omega
    replace HB := Lib.hid (HB.out.trans (hb.mono HB.out.size))
    clear hb
    have ba : Below V1.heap.size V1 (V1.alloc (.cells #[.bool yn, .string yi, .string yf] 23)) := (Below.refl _ _).alloc (Nat.le_refl _) _
    replace C0 := C0.keep ba (by omega)
    replace z0 : w.heap.size + 1 ≤ (V1.alloc (.cells #[.bool yn, .string yi, .string yf] 23)).heap.size := by have := ba.size; omega
    replace HB := Lib.hid (HB.out.trans (ba.mono HB.out.size))
    clear ba
    have C1 : Cells3 (V1.alloc (.cells #[.bool yn, .string yi, .string yf] 23)) V1.heap.size (.bool yn) (.string yi) (.string yf) := (one_box V1 _ _ _ _).2.1
    have z1 : V1.heap.size + 1 ≤ (V1.alloc (.cells #[.bool yn, .string yi, .string yf] 23)).heap.size := by simp
    have o00 := C0.1
    have o10 := C1.1
    have o01 := C0.2.1
    have o02 := C0.2.2
    have o11 := C1.2.1
    have o12 := C1.2.2
    go_wp2_with fail
    clear o00 o01 o02 o10 o11 o12
    obtain ⟨V1x, hV1x⟩ : ∃ V1x, V1x = V1.alloc (.cells #[.bool yn, .string yi, .string yf] 23) := ⟨_, rfl⟩
    have HX := Lib.hid (show V1.heap.size + 1 = V1x.heap.size by rw [hV1x]; simp)
    rw [← hV1x]
    rw [← hV1x] at HB C0 z0 C1 z1
    clear hV1x
    (with_reducible refine (D2.out _).mono ?_)
    rintro e V2 ⟨rfl, hb⟩
    replace C0 := C0.keep hb (by omega)
    replace z0 : w.heap.size + 1 ≤ V2.heap.size := by have := hb.size; omega
    replace C1 := C1.keep hb (by omega)
    replace z1 : V1.heap.size + 1 ≤ V2.heap.size := by have := hb.size; omega
    replace HB := Lib.hid (HB.out.trans (hb.mono HB.out.size))
    clear hb
    have ba : Below V2.heap.size V2 (V2.alloc (.cells #[.bool yn, .string yi, .string yf] 23)) := (Below.refl _ _).alloc (Nat.le_refl _) _
    replace C0 := C0.keep ba (by omega)
    replace z0 : w.heap.size + 1 ≤ (V2.alloc (.cells #[.bool yn, .string yi, .string yf] 23)).heap.size := by have := ba.size; omega
    replace C1 := C1.keep ba (by omega)
    replace z1 : V1.heap.size + 1 ≤ (V2.alloc (.cells #[.bool yn, .string yi, .string yf] 23)).heap.size := by have := ba.size; omega
    replace HB := Lib.hid (HB.out.trans (ba.mono HB.out.size))
    clear ba
    have C2 : Cells3 (V2.alloc (.cells #[.bool yn, .string yi, .string yf] 23)) V2.heap.size (.bool yn) (.string yi) (.string yf) := (one_box V2 _ _ _ _).2.1
    have z2 : V2.heap.size + 1 ≤ (V2.alloc (.cells #[.bool yn, .string yi, .string yf] 23)).heap.size := by simp
    have o00 := C0.1
    have o10 := C1.1
    have o20 := C2.1
    have o01 := C0.2.1
    have o02 := C0.2.2
    have o11 := C1.2.1
    have o12 := C1.2.2
    have o21 := C2.2.1
    have o22 := C2.2.2
    go_wp2_with fail
    clear o00 o01 o02 o10 o11 o12 o20 o21 o22
    obtain ⟨V2x, hV2x⟩ : ∃ V2x, V2x = V2.alloc (.cells #[.bool yn, .string yi, .string yf] 23) := ⟨_, rfl⟩
    have HX := Lib.hid (show V2.heap.size + 1 = V2x.heap.size by rw [hV2x]; simp)
    rw [← hV2x]
    rw [← hV2x] at HB C0 z0 C1 z1 C2 z2
    clear hV2x
    (with_reducible refine (DW.out _).mono ?_)
    rintro e V3 ⟨rfl, hb⟩
    replace C0 := C0.keep hb (by omega)
    replace z0 : w.heap.size + 1 ≤ V3.heap.size := by have := hb.size; omega
    replace C1 := C1.keep hb (by omega)
    replace z1 : V1.heap.size + 1 ≤ V3.heap.size := by have := hb.size; omega
    replace C2 := C2.keep hb (by omega)
    replace z2 : V2.heap.size + 1 ≤ V3.heap.size := by have := hb.size; omega
    replace HB := Lib.hid (HB.out.trans (hb.mono HB.out.size))
    clear hb
    have o00 := C0.1
    have o10 := C1.1
    have o20 := C2.1
    have o01 := C0.2.1
    have o02 := C0.2.2
    have o11 := C1.2.1
    have o12 := C1.2.2
    have o21 := C2.2.1
    have o22 := C2.2.2
    go_wp2
    go_ret
    exact ⟨rfl, HB.out⟩

def upX (X : Nat → Dc) (k : Nat) : Nat → Dc := fun j => if 1 ≤ j ∧ j < k then X j else zeroD
theorem upX_put (X : Nat → Dc) (k : Nat) (h : 1 ≤ k) : ∀ j, upX X (k + 1) j = if j = k then X k else upX X k j := by
  intro j
  unfold upX
  by_cases e : j = k
  · subst e
    rw [if_pos ⟨h, by omega⟩, if_pos rfl]
  · rw [if_neg e]
    by_cases g : 1 ≤ j ∧ j < k
    · rw [if_pos g, if_pos ⟨g.1, by omega⟩]
    · rw [if_neg g, if_neg (by omega)]

/-- The seven roundings in the row. -/
def RowX (W : World) (b : Nat) (X : Nat → Dc) : Prop := ∀ k, 1 ≤ k → k ≤ 7 → W.cell? ⟨b, k * 3, none⟩ = some (.bool (X k).neg) ∧ W.cell? ⟨b, k * 3 + 1, none⟩ = some (.string (dStr (X k).i)) ∧ W.cell? ⟨b, k * 3 + 2, none⟩ = some (.string (dStr (X k).f))
theorem RowX.keep {W w' : World} {b : Nat} {f : Nat → Dc} (h : RowX W b f) (hb : Below W.heap.size W w') (hlt : b < W.heap.size) : RowX w' b f :=
  fun k k1 k7 => ⟨(hb.cell (p := ⟨b, k * 3, none⟩) hlt).trans (h k k1 k7).1, (hb.cell (p := ⟨b, k * 3 + 1, none⟩) hlt).trans (h k k1 k7).2.1, (hb.cell (p := ⟨b, k * 3 + 2, none⟩) hlt).trans (h k k1 k7).2.2⟩
theorem RowX.of {W : World} {b : Nat} {X : Nat → Dc} (h : Row9 W b (upX X 8)) : RowX W b X := fun k k1 k7 => by
  have := h k (by omega)
  rwa [show upX X 8 k = X k from if_pos ⟨k1, by omega⟩] at this
theorem farB3 {W : World} {b c : Nat} {x0 x1 x2 : Value} (h : Cells3 W b x0 x1 x2) (hne : b ≠ c) (i j k : Nat) (u v z : Value) : Cells3 (((W.setCell ⟨c, i, none⟩ u).setCell ⟨c, j, none⟩ v).setCell ⟨c, k, none⟩ z) b x0 x1 x2 := by
  have e : ∀ o, (((W.setCell ⟨c, i, none⟩ u).setCell ⟨c, j, none⟩ v).setCell ⟨c, k, none⟩ z).cell? ⟨b, o, none⟩ = W.cell? ⟨b, o, none⟩ := fun o =>
    ((World.cell?_setCell_other _ _ _ _ (fun e => hne (congrArg Addr.block e).symm)).trans (World.cell?_setCell_other _ _ _ _ (fun e => hne (congrArg Addr.block e).symm))).trans (World.cell?_setCell_other _ _ _ _ (fun e => hne (congrArg Addr.block e).symm))
  exact ⟨(e 0).trans h.1, (e 1).trans h.2.1, (e 2).trans h.2.2⟩
theorem frozen3 {W : World} {b c : Nat} (h : ∀ i, W.frozen? ⟨b, i, none⟩ = false) (i j k : Nat) (u v z : Value) (o : Nat) : (((W.setCell ⟨c, i, none⟩ u).setCell ⟨c, j, none⟩ v).setCell ⟨c, k, none⟩ z).frozen? ⟨b, o, none⟩ = false := by simp [h]

set_option maxHeartbeats 8000000 in
set_option maxRecDepth 100000 in
theorem rm_core (d : Dc) (most : Int) (X : Nat → Dc) (yn : Bool) (yi yf : ByteArray) (e8 c1 c2 c3 c4 c5 : Int) (w : World)
    (H1 : ∀ k : Nat, 1 ≤ k → k ≤ 7 → (∀ wx : World, Calls Try.prog 5 #[(.agg #[.bool d.neg, .string (dStr d.i), .string (dStr d.f)]), .int .i64 (k : Int), .int .i64 most] wx fun e w' => e = .returned (.tuple #[(.agg #[.bool (X k).neg, .string (dStr (X k).i), .string (dStr (X k).f)]), .int .i64 0]) ∧ Below wx.heap.size wx w'))
    (H2 : (∀ wx : World, Calls Try.prog 8 #[(.agg #[.bool (X 4).neg, .string (dStr (X 4).i), .string (dStr (X 4).f)]), (.agg #[.bool d.neg, .string (dStr d.i), .string (dStr d.f)])] wx fun e w' => e = .returned (.tuple #[.int .i64 c1, .int .i64 0]) ∧ Below wx.heap.size wx w'))
    (H3 : (∀ wx : World, Calls Try.prog 8 #[(.agg #[.bool (X 3).neg, .string (dStr (X 3).i), .string (dStr (X 3).f)]), (.agg #[.bool d.neg, .string (dStr d.i), .string (dStr d.f)])] wx fun e w' => e = .returned (.tuple #[.int .i64 c2, .int .i64 0]) ∧ Below wx.heap.size wx w'))
    (H4 : (∀ wx : World, Calls Try.prog 8 #[(.agg #[.bool false, .string (dStr (X 2).i), .string (dStr (X 2).f)]), (.agg #[.bool false, .string (dStr (d).i), .string (dStr (d).f)])] wx fun e w' => e = .returned (.tuple #[.int .i64 c3, .int .i64 0]) ∧ Below wx.heap.size wx w'))
    (H5 : (∀ wx : World, Calls Try.prog 8 #[(.agg #[.bool false, .string (dStr (X 1).i), .string (dStr (X 1).f)]), (.agg #[.bool false, .string (dStr (d).i), .string (dStr (d).f)])] wx fun e w' => e = .returned (.tuple #[.int .i64 c4, .int .i64 0]) ∧ Below wx.heap.size wx w'))
    
    (H6 : (∀ wx : World, Calls Try.prog 5 #[(.agg #[.bool d.neg, .string (dStr d.i), .string (dStr d.f)]), .int .i64 8, .int .i64 most] wx fun e w' => e = .returned (.tuple #[.agg #[.bool yn, .string yi, .string yf], .int .i64 e8]) ∧ Below wx.heap.size wx w'))
    (H7 : (∀ wx : World, Calls Try.prog 8 #[(.agg #[.bool (X 4).neg, .string (dStr (X 4).i), .string (dStr (X 4).f)]), (.agg #[.bool (X 3).neg, .string (dStr (X 3).i), .string (dStr (X 3).f)])] wx fun e w' => e = .returned (.tuple #[.int .i64 c5, .int .i64 0]) ∧ Below wx.heap.size wx w'))
    (h5 : (e8 = 0 ∧ c5 = 0) ∨ (e8 = 31 ∧ c5 ≠ 0)) (he : ∀ k : Nat, 5 ≤ k → k ≤ 7 → X k = X 4 ∨ X k = X 3) (h1 : c1 ≤ 0) (h2 : 0 ≤ c2) (h3 : c3 ≤ 0) (h4 : 0 ≤ c4) :
    Calls Try.prog 3 #[(.agg #[.bool d.neg, .string (dStr d.i), .string (dStr d.f)]), .int .i64 most] w fun e w' => e = .returned (.bool true) ∧ Below w.heap.size w w' := by
  have D1 := Lib.hid H1
  have DW := Lib.hid rawake_any
  have E1 := Lib.hid H2
  have E2 := Lib.hid H3
  have E3 := Lib.hid H4
  have E4 := Lib.hid H5
  have HE := Lib.hid he
  have E8 := Lib.hid H6
  have E5 := Lib.hid H7
  have HM := Lib.hid h5
  have G0 := Lib.hid (fun wx => worth_any d.neg (dStr d.i) (dStr d.f) wx)
  have G1 := Lib.hid (fun wx => worth_any (X 1).neg (dStr (X 1).i) (dStr (X 1).f) wx)
  have G2 := Lib.hid (fun wx => worth_any (X 2).neg (dStr (X 2).i) (dStr (X 2).f) wx)
  have q1 : decide (0 < c1) = false := decide_eq_false (by omega)
  have q2 : decide (c2 < 0) = false := decide_eq_false (by omega)
  have q3 : decide (0 < c3) = false := decide_eq_false (by omega)
  have q4 : decide (c4 < 0) = false := decide_eq_false (by omega)
  clear H1 H2 H3 H4 H5 H6 H7 h5 he h1 h2 h3 h4
  go_enter Try.func3, Try.ntmps3
  go_wp2_with fail
  have hmk := fun wx => make9 wx
  rw [hmk]
  clear hmk
  obtain ⟨W0, hW0⟩ : ∃ W0, W0 = (w.alloc (.cells #[.bool d.neg, .string (dStr d.i), .string (dStr d.f)] 23)).alloc (.cells zeros27 23) := ⟨_, rfl⟩
  obtain ⟨hB, hz, C0, hR, FR⟩ : Below w.heap.size w W0 ∧ w.heap.size + 2 ≤ W0.heap.size ∧ Cells3 W0 w.heap.size (.bool d.neg) (.string (dStr d.i)) (.string (dStr d.f)) ∧ Row9 W0 (w.heap.size + 1) (fun _ => zeroD) ∧ ∀ i, W0.frozen? ⟨w.heap.size + 1, i, none⟩ = false := by
    rw [hW0]
    have b1 : Below w.heap.size w (w.alloc (.cells #[.bool d.neg, .string (dStr d.i), .string (dStr d.f)] 23)) := (Below.refl _ w).alloc (Nat.le_refl _) _
    obtain ⟨h1, h2, h3⟩ := one_box w (.bool d.neg) (.string (dStr d.i)) (.string (dStr d.f)) 23
    have ba : Below (w.alloc (.cells #[.bool d.neg, .string (dStr d.i), .string (dStr d.f)] 23)).heap.size (w.alloc (.cells #[.bool d.neg, .string (dStr d.i), .string (dStr d.f)] 23)) ((w.alloc (.cells #[.bool d.neg, .string (dStr d.i), .string (dStr d.f)] 23)).alloc (.cells zeros27 23)) := (Below.refl _ _).alloc (Nat.le_refl _) _
    have hs : (w.alloc (.cells #[.bool d.neg, .string (dStr d.i), .string (dStr d.f)] 23)).heap.size = w.heap.size + 1 := by simp
    have h9 := made9 (w.alloc (.cells #[.bool d.neg, .string (dStr d.i), .string (dStr d.f)] 23))
    rw [hs] at h9
    exact ⟨b1.trans (ba.mono b1.size), by simp, h2.keep ba (by omega), h9, fun i => by simp⟩
  have z0 : w.heap.size + 1 ≤ W0.heap.size := by omega
  rw [← hW0]
  have hsz : (w.alloc (.cells #[.bool d.neg, .string (dStr d.i), .string (dStr d.f)] 23)).heap.size = w.heap.size + 1 := by simp
  rw [hsz]
  have HB := Lib.hid hB
  have HR := Lib.hid hR
  have HF := Lib.hid FR
  have HC := Lib.hid C0
  have HZ := Lib.hid hz
  clear hW0 hB hsz hz FR hR C0 z0
  go_wp2_with fail
  go_loopw [6] (fun i wr => ∃ k : Nat, i = .int .i64 (k : Int) ∧ 1 ≤ k ∧ k ≤ 8 ∧ w.heap.size + 2 ≤ wr.heap.size ∧ Below w.heap.size w wr ∧ Cells3 wr w.heap.size (.bool d.neg) (.string (dStr d.i)) (.string (dStr d.f)) ∧ Row9 wr (w.heap.size + 1) (upX X k) ∧ ∀ i, wr.frozen? ⟨w.heap.size + 1, i, none⟩ = false) (fun i _ => 8 - (intOf i).toNat)
  case atStart => exact ⟨1, rfl, by omega, by omega, HZ.out, HB.out, HC.out, fun k hk => by have := HR.out k hk; rwa [show upX X 1 k = zeroD from if_neg (by omega)], HF.out⟩
  case round =>
    obtain ⟨k, rfl, k1, k8, hz, hB, C0, hR, FR⟩ := hrel
    have HB' := Lib.hid hB
    have HR' := Lib.hid hR
    have HF' := Lib.hid FR
    clear HB HR HF HC HZ hB hR FR
    have z0 : w.heap.size + 1 ≤ wr.heap.size := by omega
    by_cases hlt : k ≤ 7
    · have DK := Lib.hid (D1.out k k1 hlt)
      have HC' := Lib.hid C0
      obtain ⟨o0, o1, o2⟩ := C0
      go_wp2_with fail
      (with_reducible refine (DK.out _).mono ?_)
      rintro e V1 ⟨rfl, hb⟩
      have ba : Below V1.heap.size V1 (V1.alloc (.cells #[.bool (X k).neg, .string (dStr (X k).i), .string (dStr (X k).f)] 23)) := (Below.refl _ _).alloc (Nat.le_refl _) _
      have hb2 : Below wr.heap.size wr (V1.alloc (.cells #[.bool (X k).neg, .string (dStr (X k).i), .string (dStr (X k).f)] 23)) := hb.trans (ba.mono hb.size)
      obtain ⟨p0, p1, p2⟩ := (one_box V1 (.bool (X k).neg) (.string (dStr (X k).i)) (.string (dStr (X k).f)) 23).2.1
      have HR2 := Lib.hid (HR'.out.keep hb2 (by omega))
      have HC2 := Lib.hid (HC'.out.keep hb2 (by omega))
      have HF2 := Lib.hid (frozen_keep HF'.out hb2 (by omega))
      have HB2 := Lib.hid (HB'.out.trans (hb2.mono HB'.out.size))
      have HZ2 := hb2.size
      clear hb ba hb2 o0 o1 o2
      obtain ⟨f0, f1, f2⟩ := HR2.out k (by omega)
      have fz := HF2.out
      go_wp2_with fail
      refine ⟨⟨k + 1, by simp, by omega, by omega, by simp at HZ2 ⊢; omega, ?_, ?_, ?_, ?_⟩, by simp [intOf]; omega⟩
      · exact ((HB2.out.setCell (p := ⟨w.heap.size + 1, k * 3, none⟩) (Nat.le_succ _) _).setCell (p := ⟨w.heap.size + 1, k * 3 + 1, none⟩) (Nat.le_succ _) _).setCell (p := ⟨w.heap.size + 1, k * 3 + 2, none⟩) (Nat.le_succ _) _
      · exact farB3 HC2.out (by omega) _ _ _ _ _ _
      · exact HR2.out.put k (by omega) (X k) _ (upX_put X k k1)
      · exact fun i => frozen3 HF2.out _ _ _ _ _ _ i
    · obtain rfl : k = 8 := by omega
      have HC := Lib.hid C0
      have HR := Lib.hid (RowX.of HR'.out)
      have HB := Lib.hid HB'.out
      clear C0 HR' HF' HB' k1 k8 hlt
      go_wp2_with fail
      obtain ⟨r40, r41, r42⟩ := HR.out 4 (by omega) (by omega)
      have a40 : wr.cell? ⟨w.heap.size + 1, 12, none⟩ = some (.bool (X 4).neg) := r40
      have a41 : wr.cell? ⟨w.heap.size + 1, 13, none⟩ = some (.string (dStr (X 4).i)) := r41
      have a42 : wr.cell? ⟨w.heap.size + 1, 14, none⟩ = some (.string (dStr (X 4).f)) := r42
      clear r40 r41 r42
      obtain ⟨o0, o1, o2⟩ := HC.out
      go_region_held3 (fun w' => (w'.cell? ⟨w.heap.size + 1, 12, none⟩ = some (.bool (X 4).neg) ∧ w'.cell? ⟨w.heap.size + 1, 13, none⟩ = some (.string (dStr (X 4).i)) ∧ w'.cell? ⟨w.heap.size + 1, 14, none⟩ = some (.string (dStr (X 4).f)) ∧ w'.cell? ⟨w.heap.size, 0, none⟩ = some (.bool d.neg) ∧ w'.cell? ⟨w.heap.size, 1, none⟩ = some (.string (dStr d.i)) ∧ w'.cell? ⟨w.heap.size, 2, none⟩ = some (.string (dStr d.f))))
        (first
          | (with_reducible exact ⟨a40, a41, a42, o0, o1, o2⟩)
          | (have t := HR.out.keep h10 (by omega); have u := HC.out.keep h10 (by omega); exact ⟨(t 4 (by omega) (by omega)).1, (t 4 (by omega) (by omega)).2.1, (t 4 (by omega) (by omega)).2.2, u.1, u.2.1, u.2.2⟩)
          | go_keep)
        (first
          | (go_at_call 8; (with_reducible refine (E1.out _).mono ?_); rintro e V10 ⟨rfl, hb10⟩
             have h10 : Below wr.heap.size wr V10 := undrew hb10))
      replace HR := Lib.hid (HR.out.keep h10 (by omega))
      replace HC := Lib.hid (HC.out.keep h10 (by omega))
      replace HB := Lib.hid (HB.out.trans (h10.mono HB.out.size))
      replace hz : w.heap.size + 2 ≤ V10.heap.size := by have := h10.size; omega
      clear a40 a41 a42 o0 o1 o2
      go_wp2_with fail
      obtain ⟨r30, r31, r32⟩ := HR.out 3 (by omega) (by omega)
      have a30 : V10.cell? ⟨w.heap.size + 1, 9, none⟩ = some (.bool (X 3).neg) := r30
      have a31 : V10.cell? ⟨w.heap.size + 1, 10, none⟩ = some (.string (dStr (X 3).i)) := r31
      have a32 : V10.cell? ⟨w.heap.size + 1, 11, none⟩ = some (.string (dStr (X 3).f)) := r32
      clear r30 r31 r32
      obtain ⟨o0, o1, o2⟩ := HC.out
      go_region_held3 (fun w' => (w'.cell? ⟨w.heap.size + 1, 9, none⟩ = some (.bool (X 3).neg) ∧ w'.cell? ⟨w.heap.size + 1, 10, none⟩ = some (.string (dStr (X 3).i)) ∧ w'.cell? ⟨w.heap.size + 1, 11, none⟩ = some (.string (dStr (X 3).f)) ∧ w'.cell? ⟨w.heap.size, 0, none⟩ = some (.bool d.neg) ∧ w'.cell? ⟨w.heap.size, 1, none⟩ = some (.string (dStr d.i)) ∧ w'.cell? ⟨w.heap.size, 2, none⟩ = some (.string (dStr d.f))))
        (first
          | (with_reducible exact ⟨a30, a31, a32, o0, o1, o2⟩)
          | (have t := HR.out.keep h20 (by omega); have u := HC.out.keep h20 (by omega); exact ⟨(t 3 (by omega) (by omega)).1, (t 3 (by omega) (by omega)).2.1, (t 3 (by omega) (by omega)).2.2, u.1, u.2.1, u.2.2⟩)
          | go_keep)
        (first
          | (go_at_call 8; (with_reducible refine (E2.out _).mono ?_); rintro e V20 ⟨rfl, hb20⟩
             have h20 : Below V10.heap.size V10 V20 := undrew hb20))
      replace HR := Lib.hid (HR.out.keep h20 (by omega))
      replace HC := Lib.hid (HC.out.keep h20 (by omega))
      replace HB := Lib.hid (HB.out.trans (h20.mono HB.out.size))
      replace hz : w.heap.size + 2 ≤ V20.heap.size := by have := h20.size; omega
      clear a30 a31 a32 o0 o1 o2
      go_wp2_with fail
      obtain ⟨r20, r21, r22⟩ := HR.out 2 (by omega) (by omega)
      have a20 : V20.cell? ⟨w.heap.size + 1, 6, none⟩ = some (.bool (X 2).neg) := r20
      have a21 : V20.cell? ⟨w.heap.size + 1, 7, none⟩ = some (.string (dStr (X 2).i)) := r21
      have a22 : V20.cell? ⟨w.heap.size + 1, 8, none⟩ = some (.string (dStr (X 2).f)) := r22
      clear r20 r21 r22
      obtain ⟨o0, o1, o2⟩ := HC.out
      go_region_held3 (fun w' => (w'.cell? ⟨w.heap.size + 1, 6, none⟩ = some (.bool (X 2).neg) ∧ w'.cell? ⟨w.heap.size + 1, 7, none⟩ = some (.string (dStr (X 2).i)) ∧ w'.cell? ⟨w.heap.size + 1, 8, none⟩ = some (.string (dStr (X 2).f)) ∧ w'.cell? ⟨w.heap.size, 0, none⟩ = some (.bool d.neg) ∧ w'.cell? ⟨w.heap.size, 1, none⟩ = some (.string (dStr d.i)) ∧ w'.cell? ⟨w.heap.size, 2, none⟩ = some (.string (dStr d.f))))
        (first
          | (with_reducible exact ⟨a20, a21, a22, o0, o1, o2⟩)
          | (have t := HR.out.keep h30 (by omega); have u := HC.out.keep h30 (by omega); exact ⟨(t 2 (by omega) (by omega)).1, (t 2 (by omega) (by omega)).2.1, (t 2 (by omega) (by omega)).2.2, u.1, u.2.1, u.2.2⟩)
          | (have t := HR.out.keep h31 (by omega); have u := HC.out.keep h31 (by omega); exact ⟨(t 2 (by omega) (by omega)).1, (t 2 (by omega) (by omega)).2.1, (t 2 (by omega) (by omega)).2.2, u.1, u.2.1, u.2.2⟩)
          | (have t := HR.out.keep h32 (by omega); have u := HC.out.keep h32 (by omega); exact ⟨(t 2 (by omega) (by omega)).1, (t 2 (by omega) (by omega)).2.1, (t 2 (by omega) (by omega)).2.2, u.1, u.2.1, u.2.2⟩)
          | go_keep)
        (first
          | (go_at_call 9; (with_reducible refine (G2.out _).mono ?_); rintro e V30 ⟨rfl, hb30⟩
             have h30 : Below V20.heap.size V20 V30 := undrew hb30)
          | (go_at_call 9; (with_reducible refine (G0.out _).mono ?_); rintro e V31 ⟨rfl, hb31⟩
             have h31 : Below V20.heap.size V20 V31 := h30.trans (hb31.mono h30.size))
          | (go_at_call 8; (with_reducible refine (E3.out _).mono ?_); rintro e V32 ⟨rfl, hb32⟩
             have h32 : Below V20.heap.size V20 V32 := h31.trans (hb32.mono h31.size)))
      replace HR := Lib.hid (HR.out.keep h32 (by omega))
      replace HC := Lib.hid (HC.out.keep h32 (by omega))
      replace HB := Lib.hid (HB.out.trans (h32.mono HB.out.size))
      replace hz : w.heap.size + 2 ≤ V32.heap.size := by have := h32.size; omega
      clear a20 a21 a22 o0 o1 o2
      go_wp2_with fail
      obtain ⟨r10, r11, r12⟩ := HR.out 1 (by omega) (by omega)
      have a10 : V32.cell? ⟨w.heap.size + 1, 3, none⟩ = some (.bool (X 1).neg) := r10
      have a11 : V32.cell? ⟨w.heap.size + 1, 4, none⟩ = some (.string (dStr (X 1).i)) := r11
      have a12 : V32.cell? ⟨w.heap.size + 1, 5, none⟩ = some (.string (dStr (X 1).f)) := r12
      clear r10 r11 r12
      obtain ⟨o0, o1, o2⟩ := HC.out
      go_region_held3 (fun w' => (w'.cell? ⟨w.heap.size + 1, 3, none⟩ = some (.bool (X 1).neg) ∧ w'.cell? ⟨w.heap.size + 1, 4, none⟩ = some (.string (dStr (X 1).i)) ∧ w'.cell? ⟨w.heap.size + 1, 5, none⟩ = some (.string (dStr (X 1).f)) ∧ w'.cell? ⟨w.heap.size, 0, none⟩ = some (.bool d.neg) ∧ w'.cell? ⟨w.heap.size, 1, none⟩ = some (.string (dStr d.i)) ∧ w'.cell? ⟨w.heap.size, 2, none⟩ = some (.string (dStr d.f))))
        (first
          | (with_reducible exact ⟨a10, a11, a12, o0, o1, o2⟩)
          | (have t := HR.out.keep h40 (by omega); have u := HC.out.keep h40 (by omega); exact ⟨(t 1 (by omega) (by omega)).1, (t 1 (by omega) (by omega)).2.1, (t 1 (by omega) (by omega)).2.2, u.1, u.2.1, u.2.2⟩)
          | (have t := HR.out.keep h41 (by omega); have u := HC.out.keep h41 (by omega); exact ⟨(t 1 (by omega) (by omega)).1, (t 1 (by omega) (by omega)).2.1, (t 1 (by omega) (by omega)).2.2, u.1, u.2.1, u.2.2⟩)
          | (have t := HR.out.keep h42 (by omega); have u := HC.out.keep h42 (by omega); exact ⟨(t 1 (by omega) (by omega)).1, (t 1 (by omega) (by omega)).2.1, (t 1 (by omega) (by omega)).2.2, u.1, u.2.1, u.2.2⟩)
          | go_keep)
        (first
          | (go_at_call 9; (with_reducible refine (G1.out _).mono ?_); rintro e V40 ⟨rfl, hb40⟩
             have h40 : Below V32.heap.size V32 V40 := undrew hb40)
          | (go_at_call 9; (with_reducible refine (G0.out _).mono ?_); rintro e V41 ⟨rfl, hb41⟩
             have h41 : Below V32.heap.size V32 V41 := h40.trans (hb41.mono h40.size))
          | (go_at_call 8; (with_reducible refine (E4.out _).mono ?_); rintro e V42 ⟨rfl, hb42⟩
             have h42 : Below V32.heap.size V32 V42 := h41.trans (hb42.mono h41.size)))
      replace HR := Lib.hid (HR.out.keep h42 (by omega))
      replace HC := Lib.hid (HC.out.keep h42 (by omega))
      replace HB := Lib.hid (HB.out.trans (h42.mono HB.out.size))
      replace hz : w.heap.size + 2 ≤ V42.heap.size := by have := h42.size; omega
      clear a10 a11 a12 o0 o1 o2
      go_wp2_with fail
      clear h10 hb10 h20 hb20 h30 hb30 h31 hb31 h32 hb32 h40 hb40 h41 hb41 h42 hb42
      go_loopw [19] (fun i wx => ∃ k : Nat, i = .int .i64 (k : Int) ∧ 5 ≤ k ∧ k ≤ 8 ∧ w.heap.size + 2 ≤ wx.heap.size ∧ Below w.heap.size w wx ∧ Cells3 wx w.heap.size (.bool d.neg) (.string (dStr d.i)) (.string (dStr d.f)) ∧ RowX wx (w.heap.size + 1) X) (fun i _ => 8 - (intOf i).toNat)
      case atStart => exact ⟨5, rfl, by omega, by omega, hz, HB.out, HC.out, HR.out⟩
      case round =>
        obtain ⟨k, rfl, k5, k8, hz', hB, hC, hR⟩ := hrel
        clear hz HB HC HR
        have HB := Lib.hid hB
        have HC := Lib.hid hC
        have HR := Lib.hid hR
        clear hB hC hR
        by_cases hlt : k ≤ 7
        · obtain ⟨f0, f1, f2⟩ := HR.out k (by omega) (by omega)
          obtain ⟨r0, r1, r2⟩ := HR.out 4 (by omega) (by omega)
          have a40 : wr.cell? ⟨w.heap.size + 1, 12, none⟩ = some (.bool (X 4).neg) := r0
          have a41 : wr.cell? ⟨w.heap.size + 1, 13, none⟩ = some (.string (dStr (X 4).i)) := r1
          have a42 : wr.cell? ⟨w.heap.size + 1, 14, none⟩ = some (.string (dStr (X 4).f)) := r2
          clear r0 r1 r2
          obtain ⟨r0, r1, r2⟩ := HR.out 3 (by omega) (by omega)
          have a30 : wr.cell? ⟨w.heap.size + 1, 9, none⟩ = some (.bool (X 3).neg) := r0
          have a31 : wr.cell? ⟨w.heap.size + 1, 10, none⟩ = some (.string (dStr (X 3).i)) := r1
          have a32 : wr.cell? ⟨w.heap.size + 1, 11, none⟩ = some (.string (dStr (X 3).f)) := r2
          clear r0 r1 r2
          rcases HE.out k k5 hlt with hx | hx
          · rw [hx] at f0 f1 f2
            have t1 : ((X 4).neg == (X 4).neg) = true := beq_self_eq_true _
            have t2 : ((dStr (X 4).i).toList == (dStr (X 4).i).toList) = true := beq_self_eq_true _
            have t3 : ((dStr (X 4).f).toList == (dStr (X 4).f).toList) = true := beq_self_eq_true _
            clear hx
            go_wp2_with fail
            go_quiet (fail)
            go_wp2
            exact ⟨⟨k + 1, by simp, by omega, by omega, hz', below_drewN HB.out _, HC.out, HR.out⟩, by simp [intOf]; omega⟩
          · rw [hx] at f0 f1 f2
            have t1 : ((X 3).neg == (X 3).neg) = true := beq_self_eq_true _
            have t2 : ((dStr (X 3).i).toList == (dStr (X 3).i).toList) = true := beq_self_eq_true _
            have t3 : ((dStr (X 3).f).toList == (dStr (X 3).f).toList) = true := beq_self_eq_true _
            clear hx
            cases u1 : ((X 3).neg == (X 4).neg) <;> cases u2 : ((dStr (X 3).i).toList == (dStr (X 4).i).toList) <;> cases u3 : ((dStr (X 3).f).toList == (dStr (X 4).f).toList)
            all_goals
              go_wp2_with fail
              go_quiet (fail)
              go_wp2
              exact ⟨⟨k + 1, by simp, by omega, by omega, hz', below_drewN HB.out _, HC.out, HR.out⟩, by simp [intOf]; omega⟩
        · obtain rfl : k = 8 := by omega
          clear hlt k5 k8
          obtain ⟨o0, o1, o2⟩ := HC.out
          go_wp2_with fail
          (with_reducible refine (E8.out _).mono ?_)
          rintro e P1 ⟨rfl, hb⟩
          clear o0 o1 o2
          obtain ⟨P2, hP2⟩ : ∃ P2, P2 = P1.alloc (.cells #[.bool yn, .string yi, .string yf] 23) := ⟨_, rfl⟩
          have h80 : Below wr.heap.size wr P2 := by rw [hP2]; exact hb.trans (((Below.refl _ _).alloc (Nat.le_refl _) _).mono hb.size)
          replace HR := Lib.hid (HR.out.keep h80 (by omega))
          replace HC := Lib.hid (HC.out.keep h80 (by omega))
          replace HB := Lib.hid (HB.out.trans (h80.mono HB.out.size))
          have hz : w.heap.size + 2 ≤ P2.heap.size := by have := h80.size; omega
          have HP := Lib.hid hP2
          clear hb h80 hP2 hz'
          go_wp2_with fail
          rw [← HP.out]
          clear HP
          skip
          obtain ⟨r40, r41, r42⟩ := HR.out 4 (by omega) (by omega)
          have a40 : P2.cell? ⟨w.heap.size + 1, 12, none⟩ = some (.bool (X 4).neg) := r40
          have a41 : P2.cell? ⟨w.heap.size + 1, 13, none⟩ = some (.string (dStr (X 4).i)) := r41
          have a42 : P2.cell? ⟨w.heap.size + 1, 14, none⟩ = some (.string (dStr (X 4).f)) := r42
          clear r40 r41 r42
          obtain ⟨r30, r31, r32⟩ := HR.out 3 (by omega) (by omega)
          have a30 : P2.cell? ⟨w.heap.size + 1, 9, none⟩ = some (.bool (X 3).neg) := r30
          have a31 : P2.cell? ⟨w.heap.size + 1, 10, none⟩ = some (.string (dStr (X 3).i)) := r31
          have a32 : P2.cell? ⟨w.heap.size + 1, 11, none⟩ = some (.string (dStr (X 3).f)) := r32
          clear r30 r31 r32
          go_region_held3 (fun w' => (w'.cell? ⟨w.heap.size + 1, 12, none⟩ = some (.bool (X 4).neg) ∧ w'.cell? ⟨w.heap.size + 1, 13, none⟩ = some (.string (dStr (X 4).i)) ∧ w'.cell? ⟨w.heap.size + 1, 14, none⟩ = some (.string (dStr (X 4).f)) ∧ w'.cell? ⟨w.heap.size + 1, 9, none⟩ = some (.bool (X 3).neg) ∧ w'.cell? ⟨w.heap.size + 1, 10, none⟩ = some (.string (dStr (X 3).i)) ∧ w'.cell? ⟨w.heap.size + 1, 11, none⟩ = some (.string (dStr (X 3).f))))
            (first
              | (with_reducible exact ⟨a40, a41, a42, a30, a31, a32⟩)
              | (have t := HR.out.keep h50 (by omega); have u := HC.out.keep h50 (by omega); exact ⟨(t 4 (by omega) (by omega)).1, (t 4 (by omega) (by omega)).2.1, (t 4 (by omega) (by omega)).2.2, (t 3 (by omega) (by omega)).1, (t 3 (by omega) (by omega)).2.1, (t 3 (by omega) (by omega)).2.2⟩)
              | go_keep)
            (first
              | (go_at_call 8; (with_reducible refine (E5.out _).mono ?_); rintro e V50 ⟨rfl, hb50⟩
                 have h50 : Below P2.heap.size P2 V50 := undrew hb50))
          replace HR := Lib.hid (HR.out.keep h50 (by omega))
          replace HC := Lib.hid (HC.out.keep h50 (by omega))
          replace HB := Lib.hid (HB.out.trans (h50.mono HB.out.size))
          replace hz : w.heap.size + 2 ≤ V50.heap.size := by have := h50.size; omega
          clear a40 a41 a42 a30 a31 a32
          rcases HM.out with ⟨rfl, rfl⟩ | ⟨rfl, hc5⟩
          · go_wp2_with fail
            (with_reducible refine (DW.out _).mono ?_)
            rintro e P9 ⟨rfl, hb9⟩
            go_wp2
            go_ret
            exact ⟨rfl, HB.out.trans (hb9.mono HB.out.size)⟩
          · have q5 : (c5 == 0) = false := beq_eq_false_iff_ne.2 hc5
            clear hc5
            go_wp2_with fail
            (with_reducible refine (DW.out _).mono ?_)
            rintro e P9 ⟨rfl, hb9⟩
            go_wp2
            go_ret
            exact ⟨rfl, HB.out.trans (hb9.mono HB.out.size)⟩

theorem mplaces_cases (n : Bool) (i f : ByteArray) (mode most : Int) (hi : i.size ≤ 140737488355328) (hf : f.size ≤ 140737488355328) :
    (∃ c : Int, c ≠ 0 ∧ PlP mode most n i f (zeroV c) ∧ PlR mode most n i f (zeroV c)) ∨
    ∃ (d : Dc) (m : Nat), d.Ok ∧ m ≤ 40 ∧ 1 ≤ mode ∧ mode ≤ 8 ∧ most = (m : Int) ∧ n = d.neg ∧ i = dStr d.i ∧ f = dStr d.f := by
  have HC := fun wx => checkRange_any n i f mode 0 0 most wx hi hf
  have HA := fun wx => asked_any n i f mode wx hi hf
  by_cases hE : modeE (okB n i f) mode = 0
  · rw [hE] at HA
    by_cases h1 : most < 0
    · rw [show rangeE (okB n i f) mode 0 0 most = 1 by unfold rangeE; rw [if_pos hE, if_pos (by omega)]] at HC
      exact .inl ⟨1, by decide, fun w => pl_bad n i f mode most 1 w HC (by decide), fun w => rp_lo n i f mode most w HA h1⟩
    by_cases h2 : 40 < most
    · rw [show rangeE (okB n i f) mode 0 0 most = 1 by unfold rangeE; rw [if_pos hE, if_pos (by omega)]] at HC
      exact .inl ⟨1, by decide, fun w => pl_bad n i f mode most 1 w HC (by decide), fun w => rp_hi n i f mode most w HA h1 h2⟩
    obtain ⟨m, rfl⟩ : ∃ m : Nat, most = m := ⟨most.toNat, by omega⟩
    cases hk : okB n i f with
    | false => rw [hk] at hE; exact absurd hE (by unfold modeE; rw [if_neg Bool.false_ne_true]; decide)
    | true =>
      rw [hk] at hE
      have hmB : modeB mode = true := by
        cases h : modeB mode with
        | true => rfl
        | false => unfold modeE at hE; rw [h] at hE; exact absurd hE (by decide)
      unfold modeB at hmB
      simp only [Bool.and_eq_true, decide_eq_true_eq] at hmB
      obtain ⟨d, hd, e1, e2, e3⟩ := ok_cases hk
      exact .inr ⟨d, m, hd, by omega, hmB.1, hmB.2, rfl, e1, e2, e3⟩
  · rw [show rangeE (okB n i f) mode 0 0 most = modeE (okB n i f) mode by unfold rangeE; rw [if_neg hE]] at HC
    have he : (modeE (okB n i f) mode != 0) = true := by simpa using hE
    exact .inl ⟨_, hE, fun w => pl_bad n i f mode most _ w HC he, fun w => rp_bad n i f mode most _ w HA he⟩


theorem rmodes_walk (n : Bool) (i f : ByteArray) (most : Int) (w : World) (hi : i.size ≤ 140737488355328) (hf : f.size ≤ 140737488355328) (_h3 : -9223372036854775808 ≤ most) (_h4 : most ≤ 9223372036854775807) :
    Calls Try.prog 3 #[.agg #[.bool n, .string i, .string f], .int .i64 most] w fun e w' => e = .returned (.bool true) ∧ Below w.heap.size w w' := by
  rcases mplaces_cases n i f 1 most hi hf with ⟨c, c0, h1, h2⟩ | ⟨d, m, hd, hm, -, -, rfl, rfl, rfl, rfl⟩
  · exact rm_err n i f most _ _ _ c w h1 h2 (by simpa using c0)
  · obtain ⟨Y, hY, y4, y3, y2, y1, hall, h8⟩ := modes_dec d m hd hm
    have ok := fun k k1 k7 => (hY k k1 k7).1
    have o1 := ok 1 (by omega) (by omega)
    have o2 := ok 2 (by omega) (by omega)
    have o3 := ok 3 (by omega) (by omega)
    have o4 := ok 4 (by omega) (by omega)
    have P : ∀ k : Nat, 1 ≤ k → k ≤ 7 → PlP (k : Int) m d.neg (dStr d.i) (dStr d.f) (RES (some (Y (k : Int)))) := fun k k1 k7 => (hY (k : Int) (by omega) (by omega)).2
    have C1 := fun wx => refCompare_ok (Y 4) d wx o4 hd
    have C2 := fun wx => refCompare_ok (Y 3) d wx o3 hd
    have C3 := fun wx => refCompare_ok (worthD (Y 2)) (worthD d) wx (worth_ok o2) (worth_ok hd)
    have C4 := fun wx => refCompare_ok (worthD (Y 1)) (worthD d) wx (worth_ok o1) (worth_ok hd)
    have C5 := fun wx => refCompare_ok (Y 4) (Y 3) wx o4 o3
    rcases h8 with ⟨hc, y, hy⟩ | ⟨hc, hy⟩
    · exact rm_core d m (fun k => Y (k : Int)) _ _ _ 0 _ _ _ _ _ w P C1 C2 C3 C4 hy C5 (.inl ⟨rfl, hc⟩) (fun k _ _ => hall (k : Int)) y4 y3 y2 y1
    · exact rm_core d m (fun k => Y (k : Int)) _ _ _ 31 _ _ _ _ _ w P C1 C2 C3 C4 hy C5 (.inr ⟨rfl, hc⟩) (fun k _ _ => hall (k : Int)) y4 y3 y2 y1
end Go.Proofs.Ytpbljcjghjbjdaa
