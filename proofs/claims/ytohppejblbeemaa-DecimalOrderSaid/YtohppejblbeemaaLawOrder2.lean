/- DecimalOrder, put together. -/
import Derived.Test.YtohppejblbeemaaLawOrderA
import Derived.Test.YtohppejblbeemaaLawOrderB
import Derived.Test.YtohppejblbeemaaLawOrderC
namespace Go.Proofs.Ytohppejblbeemaa
open Go.RowKit

theorem fine_three (an bn cn : Bool) (ai af bi bf ci cf : ByteArray) (wx : World) (h1 : ai.size ≤ 140737488355328) (h2 : af.size ≤ 140737488355328) (h3 : bi.size ≤ 140737488355328) (h4 : bf.size ≤ 140737488355328) (h5 : ci.size ≤ 140737488355328) (h6 : cf.size ≤ 140737488355328) :
    Calls Try.prog 40 #[.slice (some ⟨wx.heap.size, 0, none⟩) 3 3] (wx.alloc (.cells #[.bool an, .string ai, .string af, .bool bn, .string bi, .string bf, .bool cn, .string ci, .string cf] 23)) fun e w' => e = .returned (.bool (okB an ai af && (okB bn bi bf && (okB cn ci cf && true)))) ∧ Below wx.heap.size wx w' := by
  refine (fine_any [(an, ai, af), (bn, bi, bf), (cn, ci, cf)] wx.heap.size 3 23 (0, 0) _ (heap_alloc_new wx _) rfl (by omega) ?_).mono ?_
  · intro k hk
    rcases (by omega : k = 0 ∨ k = 1 ∨ k = 2) with rfl | rfl | rfl
    · exact ⟨h1, h2⟩
    · exact ⟨h3, h4⟩
    · exact ⟨h5, h6⟩
  · rintro e w' ⟨rfl, hb⟩
    exact ⟨rfl, ((Below.refl _ _).alloc (Nat.le_refl _) _).trans (hb.mono (by simp))⟩

set_option maxHeartbeats 1000000 in
set_option maxRecDepth 100000 in
theorem order_bad (an bn cn : Bool) (ai af bi bf ci cf : ByteArray) (w : World) (HF : ∀ (g : Nat) (wx : World), g = wx.heap.size → Calls Try.prog 40 #[.slice (some ⟨g, 0, none⟩) 3 3] (wx.alloc (.cells #[.bool an, .string ai, .string af, .bool bn, .string bi, .string bf, .bool cn, .string ci, .string cf] 23)) fun e w' => e = .returned (.bool false) ∧ Below wx.heap.size wx w') :
    Calls Try.prog 9 #[(.agg #[.bool an, .string ai, .string af]), (.agg #[.bool bn, .string bi, .string bf]), (.agg #[.bool cn, .string ci, .string cf])] w fun e w' => e = .returned (.bool true) ∧ Below w.heap.size w w' := by
  have DW := Lib.hid awake_any
  have DF := Lib.hid HF
  clear HF
  go_enter Try.func9, Try.ntmps9
  go_wp2_with fail
  obtain ⟨W0, hW0⟩ : ∃ W0, W0 = (((w.alloc (.cells #[.bool an, .string ai, .string af] 23)).alloc (.cells #[.bool bn, .string bi, .string bf] 23)).alloc (.cells #[.bool cn, .string ci, .string cf] 23)) := ⟨_, rfl⟩
  obtain ⟨hB, hz, C0, C1, C2, _⟩ : Below w.heap.size w W0 ∧ w.heap.size + 3 ≤ W0.heap.size ∧ Cells3 W0 w.heap.size (.bool an) (.string ai) (.string af) ∧ Cells3 W0 (w.heap.size + 1) (.bool bn) (.string bi) (.string bf) ∧ Cells3 W0 (w.heap.size + 2) (.bool cn) (.string ci) (.string cf) ∧ ∀ i, W0.frozen? ⟨(w.heap.size + 2), i, none⟩ = false := by rw [hW0]; exact ⟨below_three w _ _ _, three_boxes w _ _ _ _ _ _ _ _ _ _⟩
  have z0 : w.heap.size + 1 ≤ W0.heap.size := by omega
  have z1 : (w.heap.size + 1) + 1 ≤ W0.heap.size := by omega
  have z2 : (w.heap.size + 2) + 1 ≤ W0.heap.size := by omega
  rw [← hW0]
  have HB := Lib.hid hB
  clear hW0 hB hz
  (with_reducible refine (DW.out _).mono ?_)
  rintro e V1 ⟨rfl, hb⟩
  replace C0 := C0.keep hb (by omega)
  replace z0 : w.heap.size + 1 ≤ V1.heap.size := by have := hb.size; omega
  replace C1 := C1.keep hb (by omega)
  replace z1 : (w.heap.size + 1) + 1 ≤ V1.heap.size := by have := hb.size; omega
  replace C2 := C2.keep hb (by omega)
  replace z2 : (w.heap.size + 2) + 1 ≤ V1.heap.size := by have := hb.size; omega
  replace HB := Lib.hid (HB.out.trans (hb.mono HB.out.size))
  clear hb
  have o00 := C0.1
  have o10 := C1.1
  have o20 := C2.1
  have o01 := C0.2.1
  have o02 := C0.2.2
  have o11 := C1.2.1
  have o12 := C1.2.2
  have o21 := C2.2.1
  have o22 := C2.2.2
  go_wp2_with fail
  clear o00 o01 o02 o10 o11 o12 o20 o21 o22
  (with_reducible refine (DF.out _ _ ?_).mono ?_)
  · rfl
  rintro e V2 ⟨rfl, hb⟩
  replace C0 := C0.keep hb (by omega)
  replace z0 : w.heap.size + 1 ≤ V2.heap.size := by have := hb.size; omega
  replace C1 := C1.keep hb (by omega)
  replace z1 : (w.heap.size + 1) + 1 ≤ V2.heap.size := by have := hb.size; omega
  replace C2 := C2.keep hb (by omega)
  replace z2 : (w.heap.size + 2) + 1 ≤ V2.heap.size := by have := hb.size; omega
  replace HB := Lib.hid (HB.out.trans (hb.mono HB.out.size))
  clear hb
  have o00 := C0.1
  have o10 := C1.1
  have o20 := C2.1
  have o01 := C0.2.1
  have o02 := C0.2.2
  have o11 := C1.2.1
  have o12 := C1.2.2
  have o21 := C2.2.1
  have o22 := C2.2.2
  go_wp2
  go_ret
  exact ⟨rfl, HB.out⟩

theorem cmp0_trans {a b c : Dc} (h1 : cmpD a b = 0) (h2 : cmpD b c = 0) : cmpD a c = 0 := by
  have k1 := (cmp_trans a b c (by omega) (by omega)).1
  have k2 := (cmp_trans c b a (by rw [cmp_neg b c]; omega) (by rw [cmp_neg a b]; omega)).1
  rw [cmp_neg a c] at k2
  omega
theorem cmp0_symm {a b : Dc} (h : cmpD a b = 0) : cmpD b a = 0 := by rw [cmp_neg a b]; omega
theorem dc_same {a b : Dc} (ha : a.Ok) (hb : b.Ok) (h1 : a.neg = b.neg) (h2 : dStr a.i = dStr b.i) (h3 : dStr a.f = dStr b.f) : a = b := by
  have e2 := dStr_inj ha.di hb.di h2
  have e3 := dStr_inj ha.df hb.df h3
  cases a; cases b
  simp only at h1 e2 e3
  subst h1 e2 e3
  rfl
theorem toList_ne {a b : ByteArray} (h : ¬ a = b) : (a.toList == b.toList) = false := by
  rw [Lib.toList_data, Lib.toList_data, beq_eq_false_iff_ne]
  intro e
  apply h
  cases a; cases b
  congr 1
  exact Array.toList_inj.1 e
theorem bool_ne {a b : Bool} (h : ¬ a = b) : (a == b) = false := by rw [beq_eq_false_iff_ne]; exact h
theorem sub_out (a b : Dc) (ha : a.Ok) (hb : b.Ok) :
    (∃ c : Int, c ≠ 0 ∧ ∀ wx : World, Calls Try.prog 26 #[.agg #[.bool a.neg, .string (dStr a.i), .string (dStr a.f)], .agg #[.bool b.neg, .string (dStr b.i), .string (dStr b.f)]] wx fun e w' => e = .returned (.tuple #[.agg #[.bool false, .string ⟨#[]⟩, .string ⟨#[]⟩], .int .i64 c]) ∧ Below wx.heap.size wx w') ∨
    (∃ d : Dc, d.Ok ∧ subD a b = some d ∧ ∀ wx : World, Calls Try.prog 26 #[.agg #[.bool a.neg, .string (dStr a.i), .string (dStr a.f)], .agg #[.bool b.neg, .string (dStr b.i), .string (dStr b.f)]] wx fun e w' => e = .returned (.tuple #[.agg #[.bool d.neg, .string (dStr d.i), .string (dStr d.f)], .int .i64 0]) ∧ Below wx.heap.size wx w') := by
  cases ho : subD a b with
  | none => exact .inl ⟨3, by decide, fun wx => sub_ok a b wx none ho ha hb⟩
  | some d => exact .inr ⟨d, (mk_some ho).2.2.1, rfl, fun wx => sub_ok a b wx (some d) ho ha hb⟩
theorem zero_ok : dcZero.Ok := ⟨fun x hx => by simp [dcZero] at hx; omega, .nil, by decide, by decide, .inl rfl, fun h => by cases h⟩
theorem cmp_sub (a b d : Dc) (hd : d.Ok) (h : subD a b = some d) (wx : World) :
    Calls Try.prog 21 #[.agg #[.bool d.neg, .string (dStr d.i), .string (dStr d.f)], .agg #[.bool false, .string ⟨#[48]⟩, .string ⟨#[]⟩]] wx fun e w' => e = .returned (.tuple #[.int .i64 (cmpD a b), .int .i64 0]) ∧ Below wx.heap.size wx w' := by
  have := compare_ok d dcZero wx hd zero_ok
  rw [sub_cmp h] at this
  exact this

theorem order_walk (an : Bool) (ai af : ByteArray) (bn : Bool) (bi bf : ByteArray) (cn : Bool) (ci cf : ByteArray) (w : World) (h1 : ai.size ≤ 140737488355328) (h2 : af.size ≤ 140737488355328) (h3 : bi.size ≤ 140737488355328) (h4 : bf.size ≤ 140737488355328) (h5 : ci.size ≤ 140737488355328) (h6 : cf.size ≤ 140737488355328) :
    Calls Try.prog 9 #[.agg #[.bool an, .string ai, .string af], .agg #[.bool bn, .string bi, .string bf], .agg #[.bool cn, .string ci, .string cf]] w fun e w' => e = .returned (.bool true) ∧ Below w.heap.size w w' := by
  have HF := fun wx => fine_three an bn cn ai af bi bf ci cf wx h1 h2 h3 h4 h5 h6
  cases hk : (okB an ai af && (okB bn bi bf && (okB cn ci cf && true))) with
  | false =>
    rw [hk] at HF
    exact order_bad an bn cn ai af bi bf ci cf w (fun g wx hg => by subst hg; exact HF wx)
  | true =>
    rw [hk] at HF
    simp only [Bool.and_eq_true, and_true] at hk
    obtain ⟨ka, kb, kc⟩ := hk
    obtain ⟨a, ha, rfl, rfl, rfl⟩ := ok_cases ka
    obtain ⟨b, hb, rfl, rfl, rfl⟩ := ok_cases kb
    obtain ⟨c, hc, rfl, rfl, rfl⟩ := ok_cases kc
    clear h1 h2 h3 h4 h5 h6 ka kb kc
    replace HF : ∀ (g : Nat) (wx : World), g = wx.heap.size → Calls Try.prog 40 #[.slice (some ⟨g, 0, none⟩) 3 3] (wx.alloc (.cells #[.bool a.neg, .string (dStr a.i), .string (dStr a.f), .bool b.neg, .string (dStr b.i), .string (dStr b.f), .bool c.neg, .string (dStr c.i), .string (dStr c.f)] 23)) fun e w' => e = .returned (.bool true) ∧ Below wx.heap.size wx w' := fun g wx hg => by subst hg; exact HF wx
    obtain ⟨ta, ca, ra⟩ := trim_facts ha
    obtain ⟨tb, cb, rb⟩ := trim_facts hb
    have H1 := fun wx => compare_ok a b wx ha hb
    have H2 := fun wx => compare_ok b a wx hb ha
    have H3 := fun wx => compare_ok b c wx hb hc
    have H4 := fun wx => compare_ok a c wx ha hc
    have H7 := fun wx => trim_ok a wx ha
    have H8 := fun wx => trim_ok b wx hb
    have rab := cmp_range a b
    have rac := cmp_range a c
    have rbc := cmp_range b c
    have tr := cmp_trans a b c
    rw [cmp_neg a b] at H2
    rcases (by omega : cmpD a b = 1 ∨ cmpD a b = 0 ∨ cmpD a b = -1) with hab | hab | hab
    · have hne : ¬ trimD a = trimD b := fun e => by
        have := cmp0_trans (cmp0_symm ca) (by rw [e]; exact cb)
        omega
      rw [hab] at H1 H2
      rcases sub_out a b ha hb with ⟨c5, h5, H5⟩ | ⟨d, hd, hs, H5⟩
      · by_cases hn : (trimD a).neg = (trimD b).neg
        · rw [← hn] at H8
          by_cases hi : dStr (trimD a).i = dStr (trimD b).i
          · rw [← hi] at H8
            by_cases hf : dStr (trimD a).f = dStr (trimD b).f
            · exact absurd (dc_same ta tb hn hi hf) hne
            · exact order_p_er_f (w := w) (HF := HF) (H1 := H1) (H2 := H2) (H3 := H3) (H4 := H4) (H5 := H5) (h5 := h5) (H7 := H7) (H8 := H8) (hne := toList_ne hf)
          · exact order_p_er_i (w := w) (HF := HF) (H1 := H1) (H2 := H2) (H3 := H3) (H4 := H4) (H5 := H5) (h5 := h5) (H7 := H7) (H8 := H8) (hne := toList_ne hi)
        · exact order_p_er_n (w := w) (HF := HF) (H1 := H1) (H2 := H2) (H3 := H3) (H4 := H4) (H5 := H5) (h5 := h5) (H7 := H7) (H8 := H8) (hne := bool_ne hn)
      · have H6 := fun wx => cmp_sub a b d hd hs wx
        rw [hab] at H6
        by_cases hn : (trimD a).neg = (trimD b).neg
        · rw [← hn] at H8
          by_cases hi : dStr (trimD a).i = dStr (trimD b).i
          · rw [← hi] at H8
            by_cases hf : dStr (trimD a).f = dStr (trimD b).f
            · exact absurd (dc_same ta tb hn hi hf) hne
            · exact order_p_ok_f (w := w) (HF := HF) (H1 := H1) (H2 := H2) (H3 := H3) (H4 := H4) (H5 := H5) (H6 := H6) (H7 := H7) (H8 := H8) (hne := toList_ne hf)
          · exact order_p_ok_i (w := w) (HF := HF) (H1 := H1) (H2 := H2) (H3 := H3) (H4 := H4) (H5 := H5) (H6 := H6) (H7 := H7) (H8 := H8) (hne := toList_ne hi)
        · exact order_p_ok_n (w := w) (HF := HF) (H1 := H1) (H2 := H2) (H3 := H3) (H4 := H4) (H5 := H5) (H6 := H6) (H7 := H7) (H8 := H8) (hne := bool_ne hn)
    · have heq : trimD a = trimD b := trimmed_same ta tb ra rb (cmp0_trans ca (cmp0_trans hab (cmp0_symm cb)))
      rw [← heq] at H8
      rw [hab] at H1 H2
      rcases sub_out a b ha hb with ⟨c5, h5, H5⟩ | ⟨d, hd, hs, H5⟩
      · by_cases hbc : cmpD b c ≤ 0
        · by_cases hac : cmpD a c = 0
          · have hbz : cmpD b c = 0 := by have := tr (by omega) hbc; have := this.2 hac; omega
            rw [hac] at H4
            rw [hbz] at H3
            exact order_zsame_er (w := w) (HF := HF) (H1 := H1) (H2 := H2) (H3 := H3) (H4 := H4) (H5 := H5) (h5 := h5) (H7 := H7) (H8 := H8)
          · have hac1 : cmpD a c = -1 := by have := (tr (by omega) hbc).1; omega
            rw [hac1] at H4
            exact order_zdown_er (w := w) (HF := HF) (H1 := H1) (H2 := H2) (H3 := H3) (H4 := H4) (H5 := H5) (h5 := h5) (H7 := H7) (H8 := H8) (hbc := hbc)
        · have hb1 : cmpD b c = 1 := by omega
          rw [hb1] at H3
          exact order_zup_er (w := w) (HF := HF) (H1 := H1) (H2 := H2) (H3 := H3) (H4 := H4) (H5 := H5) (h5 := h5) (H7 := H7) (H8 := H8)
      · have H6 := fun wx => cmp_sub a b d hd hs wx
        rw [hab] at H6
        by_cases hbc : cmpD b c ≤ 0
        · by_cases hac : cmpD a c = 0
          · have hbz : cmpD b c = 0 := by have := tr (by omega) hbc; have := this.2 hac; omega
            rw [hac] at H4
            rw [hbz] at H3
            exact order_zsame_ok (w := w) (HF := HF) (H1 := H1) (H2 := H2) (H3 := H3) (H4 := H4) (H5 := H5) (H6 := H6) (H7 := H7) (H8 := H8)
          · have hac1 : cmpD a c = -1 := by have := (tr (by omega) hbc).1; omega
            rw [hac1] at H4
            exact order_zdown_ok (w := w) (HF := HF) (H1 := H1) (H2 := H2) (H3 := H3) (H4 := H4) (H5 := H5) (H6 := H6) (H7 := H7) (H8 := H8) (hbc := hbc)
        · have hb1 : cmpD b c = 1 := by omega
          rw [hb1] at H3
          exact order_zup_ok (w := w) (HF := HF) (H1 := H1) (H2 := H2) (H3 := H3) (H4 := H4) (H5 := H5) (H6 := H6) (H7 := H7) (H8 := H8)
    · have hne : ¬ trimD a = trimD b := fun e => by
        have := cmp0_trans (cmp0_symm ca) (by rw [e]; exact cb)
        omega
      rw [hab] at H1 H2
      rcases sub_out a b ha hb with ⟨c5, h5, H5⟩ | ⟨d, hd, hs, H5⟩
      · by_cases hbc : cmpD b c ≤ 0
        · have hac1 : cmpD a c = -1 := by have := tr (by omega) hbc; have h2 := this.1; have h3 : ¬ cmpD a c = 0 := (fun h0 => by have := this.2 h0; omega); omega
          rw [hac1] at H4
          by_cases hn : (trimD a).neg = (trimD b).neg
          · rw [← hn] at H8
            by_cases hi : dStr (trimD a).i = dStr (trimD b).i
            · rw [← hi] at H8
              by_cases hf : dStr (trimD a).f = dStr (trimD b).f
              · exact absurd (dc_same ta tb hn hi hf) hne
              · exact order_mdown_er_f (w := w) (HF := HF) (H1 := H1) (H2 := H2) (H3 := H3) (H4 := H4) (H5 := H5) (h5 := h5) (H7 := H7) (H8 := H8) (hbc := hbc) (hne := toList_ne hf)
            · exact order_mdown_er_i (w := w) (HF := HF) (H1 := H1) (H2 := H2) (H3 := H3) (H4 := H4) (H5 := H5) (h5 := h5) (H7 := H7) (H8 := H8) (hbc := hbc) (hne := toList_ne hi)
          · exact order_mdown_er_n (w := w) (HF := HF) (H1 := H1) (H2 := H2) (H3 := H3) (H4 := H4) (H5 := H5) (h5 := h5) (H7 := H7) (H8 := H8) (hbc := hbc) (hne := bool_ne hn)
        · have hb1 : cmpD b c = 1 := by omega
          rw [hb1] at H3
          by_cases hn : (trimD a).neg = (trimD b).neg
          · rw [← hn] at H8
            by_cases hi : dStr (trimD a).i = dStr (trimD b).i
            · rw [← hi] at H8
              by_cases hf : dStr (trimD a).f = dStr (trimD b).f
              · exact absurd (dc_same ta tb hn hi hf) hne
              · exact order_mup_er_f (w := w) (HF := HF) (H1 := H1) (H2 := H2) (H3 := H3) (H4 := H4) (H5 := H5) (h5 := h5) (H7 := H7) (H8 := H8) (hne := toList_ne hf)
            · exact order_mup_er_i (w := w) (HF := HF) (H1 := H1) (H2 := H2) (H3 := H3) (H4 := H4) (H5 := H5) (h5 := h5) (H7 := H7) (H8 := H8) (hne := toList_ne hi)
          · exact order_mup_er_n (w := w) (HF := HF) (H1 := H1) (H2 := H2) (H3 := H3) (H4 := H4) (H5 := H5) (h5 := h5) (H7 := H7) (H8 := H8) (hne := bool_ne hn)
      · have H6 := fun wx => cmp_sub a b d hd hs wx
        rw [hab] at H6
        by_cases hbc : cmpD b c ≤ 0
        · have hac1 : cmpD a c = -1 := by have := tr (by omega) hbc; have h2 := this.1; have h3 : ¬ cmpD a c = 0 := (fun h0 => by have := this.2 h0; omega); omega
          rw [hac1] at H4
          by_cases hn : (trimD a).neg = (trimD b).neg
          · rw [← hn] at H8
            by_cases hi : dStr (trimD a).i = dStr (trimD b).i
            · rw [← hi] at H8
              by_cases hf : dStr (trimD a).f = dStr (trimD b).f
              · exact absurd (dc_same ta tb hn hi hf) hne
              · exact order_mdown_ok_f (w := w) (HF := HF) (H1 := H1) (H2 := H2) (H3 := H3) (H4 := H4) (H5 := H5) (H6 := H6) (H7 := H7) (H8 := H8) (hbc := hbc) (hne := toList_ne hf)
            · exact order_mdown_ok_i (w := w) (HF := HF) (H1 := H1) (H2 := H2) (H3 := H3) (H4 := H4) (H5 := H5) (H6 := H6) (H7 := H7) (H8 := H8) (hbc := hbc) (hne := toList_ne hi)
          · exact order_mdown_ok_n (w := w) (HF := HF) (H1 := H1) (H2 := H2) (H3 := H3) (H4 := H4) (H5 := H5) (H6 := H6) (H7 := H7) (H8 := H8) (hbc := hbc) (hne := bool_ne hn)
        · have hb1 : cmpD b c = 1 := by omega
          rw [hb1] at H3
          by_cases hn : (trimD a).neg = (trimD b).neg
          · rw [← hn] at H8
            by_cases hi : dStr (trimD a).i = dStr (trimD b).i
            · rw [← hi] at H8
              by_cases hf : dStr (trimD a).f = dStr (trimD b).f
              · exact absurd (dc_same ta tb hn hi hf) hne
              · exact order_mup_ok_f (w := w) (HF := HF) (H1 := H1) (H2 := H2) (H3 := H3) (H4 := H4) (H5 := H5) (H6 := H6) (H7 := H7) (H8 := H8) (hne := toList_ne hf)
            · exact order_mup_ok_i (w := w) (HF := HF) (H1 := H1) (H2 := H2) (H3 := H3) (H4 := H4) (H5 := H5) (H6 := H6) (H7 := H7) (H8 := H8) (hne := toList_ne hi)
          · exact order_mup_ok_n (w := w) (HF := HF) (H1 := H1) (H2 := H2) (H3 := H3) (H4 := H4) (H5 := H5) (H6 := H6) (H7 := H7) (H8 := H8) (hne := bool_ne hn)
end Go.Proofs.Ytohppejblbeemaa
