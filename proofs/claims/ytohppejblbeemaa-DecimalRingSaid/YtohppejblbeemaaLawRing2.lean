/- DecimalRing, put together. -/
import Derived.Test.YtohppejblbeemaaLawRingA
import Derived.Test.YtohppejblbeemaaLawRingB
import Derived.Test.YtohppejblbeemaaLawRingC
import Derived.Test.YtohppejblbeemaaLawRingD
import Derived.Test.YtohppejblbeemaaLawRingE
import Derived.Test.YtohppejblbeemaaLawRingF
import Derived.Test.YtohppejblbeemaaLawRingG
import Derived.Test.YtohppejblbeemaaLawRingH
import Derived.Test.YtohppejblbeemaaDMoves
import Derived.Test.YtohppejblbeemaaDMulT
import Derived.Test.YtohppejblbeemaaDTop
namespace Go.Proofs.Ytohppejblbeemaa
open Go.RowKit

theorem fine_3 (an bn cn : Bool) (ai af bi bf ci cf : ByteArray) (wx : World) (h1 : ai.size ≤ 140737488355328) (h2 : af.size ≤ 140737488355328) (h3 : bi.size ≤ 140737488355328) (h4 : bf.size ≤ 140737488355328) (h5 : ci.size ≤ 140737488355328) (h6 : cf.size ≤ 140737488355328) :
    Calls Try.prog 40 #[.slice (some ⟨wx.heap.size, 0, none⟩) 3 3] (wx.alloc (.cells #[.bool an, .string ai, .string af, .bool bn, .string bi, .string bf, .bool cn, .string ci, .string cf] 23)) fun e w' => e = .returned (.bool (okB an ai af && (okB bn bi bf && (okB cn ci cf && true)))) ∧ Below wx.heap.size wx w' := by
  refine (fine_any [(an, ai, af), (bn, bi, bf), (cn, ci, cf)] wx.heap.size 3 23 (0, 0) _ (heap_alloc_new wx _) rfl (by omega) ?_).mono ?_
  · intro k hk
    rcases (by omega : k = 0 ∨ k = 1 ∨ k = 2) with rfl | rfl | rfl
    · exact ⟨h1, h2⟩
    · exact ⟨h3, h4⟩
    · exact ⟨h5, h6⟩
  · rintro e w' ⟨rfl, hb⟩
    exact ⟨rfl, ((Below.refl _ _).alloc (Nat.le_refl _) _).trans (hb.mono (by simp))⟩

set_option maxHeartbeats 1000000 in
set_option maxRecDepth 100000 in
theorem ring_bad (an bn cn : Bool) (ai af bi bf ci cf : ByteArray) (w : World) (HF : ∀ (g : Nat) (wx : World), g = wx.heap.size → Calls Try.prog 40 #[.slice (some ⟨g, 0, none⟩) 3 3] (wx.alloc (.cells #[.bool an, .string ai, .string af, .bool bn, .string bi, .string bf, .bool cn, .string ci, .string cf] 23)) fun e w' => e = .returned (.bool false) ∧ Below wx.heap.size wx w') :
    Calls Try.prog 10 #[(.agg #[.bool an, .string ai, .string af]), (.agg #[.bool bn, .string bi, .string bf]), (.agg #[.bool cn, .string ci, .string cf])] w fun e w' => e = .returned (.bool true) ∧ Below w.heap.size w w' := by
  have DW := Lib.hid awake_any
  have DF := Lib.hid HF
  clear HF
  go_enter Try.func10, Try.ntmps10
  go_wp2_with fail
  obtain ⟨W0, hW0⟩ : ∃ W0, W0 = (((w.alloc (.cells #[.bool an, .string ai, .string af] 23)).alloc (.cells #[.bool bn, .string bi, .string bf] 23)).alloc (.cells #[.bool cn, .string ci, .string cf] 23)) := ⟨_, rfl⟩
  obtain ⟨hB, hz, C0, C1, C2, _⟩ : Below w.heap.size w W0 ∧ w.heap.size + 3 ≤ W0.heap.size ∧ Cells3 W0 w.heap.size (.bool an) (.string ai) (.string af) ∧ Cells3 W0 (w.heap.size + 1) (.bool bn) (.string bi) (.string bf) ∧ Cells3 W0 (w.heap.size + 2) (.bool cn) (.string ci) (.string cf) ∧ ∀ i, W0.frozen? ⟨(w.heap.size + 2), i, none⟩ = false := by rw [hW0]; exact ⟨below_three w _ _ _, three_boxes w _ _ _ _ _ _ _ _ _ _⟩
  have z0 : w.heap.size + 1 ≤ W0.heap.size := by omega
  have z1 : (w.heap.size + 1) + 1 ≤ W0.heap.size := by omega
  have z2 : (w.heap.size + 2) + 1 ≤ W0.heap.size := by omega
  rw [← hW0]
  have HB := Lib.hid hB
  clear hW0 hB hz
  (with_reducible refine (DW.out _).mono ?_)
  rintro e V1 ⟨rfl, hb⟩
  replace C0 := C0.keep hb (by omega)
  replace z0 : w.heap.size + 1 ≤ V1.heap.size := by have := hb.size; omega
  replace C1 := C1.keep hb (by omega)
  replace z1 : (w.heap.size + 1) + 1 ≤ V1.heap.size := by have := hb.size; omega
  replace C2 := C2.keep hb (by omega)
  replace z2 : (w.heap.size + 2) + 1 ≤ V1.heap.size := by have := hb.size; omega
  replace HB := Lib.hid (HB.out.trans (hb.mono HB.out.size))
  clear hb
  have o00 := C0.1
  have o10 := C1.1
  have o20 := C2.1
  have o01 := C0.2.1
  have o02 := C0.2.2
  have o11 := C1.2.1
  have o12 := C1.2.2
  have o21 := C2.2.1
  have o22 := C2.2.2
  go_wp2_with fail
  clear o00 o01 o02 o10 o11 o12 o20 o21 o22
  (with_reducible refine (DF.out _ _ ?_).mono ?_)
  · rfl
  rintro e V2 ⟨rfl, hb⟩
  replace C0 := C0.keep hb (by omega)
  replace z0 : w.heap.size + 1 ≤ V2.heap.size := by have := hb.size; omega
  replace C1 := C1.keep hb (by omega)
  replace z1 : (w.heap.size + 1) + 1 ≤ V2.heap.size := by have := hb.size; omega
  replace C2 := C2.keep hb (by omega)
  replace z2 : (w.heap.size + 2) + 1 ≤ V2.heap.size := by have := hb.size; omega
  replace HB := Lib.hid (HB.out.trans (hb.mono HB.out.size))
  clear hb
  have o00 := C0.1
  have o10 := C1.1
  have o20 := C2.1
  have o01 := C0.2.1
  have o02 := C0.2.2
  have o11 := C1.2.1
  have o12 := C1.2.2
  have o21 := C2.2.1
  have o22 := C2.2.2
  go_wp2
  go_ret
  exact ⟨rfl, HB.out⟩

theorem ring_core (an bn cn dn gn pn rn sn hn : Bool) (ai af bi bf ci cf di df gi gf pi pf ri rf si sf hi hf : ByteArray) (e1 e3 f1 f3 f4 e8 : Int) (w : World) (HF : ∀ (g : Nat) (wx : World), g = wx.heap.size → Calls Try.prog 40 #[.slice (some ⟨g, 0, none⟩) 3 3] (wx.alloc (.cells #[.bool an, .string ai, .string af, .bool bn, .string bi, .string bf, .bool cn, .string ci, .string cf] 23)) fun e w' => e = .returned (.bool true) ∧ Below wx.heap.size wx w') (H1 : (∀ wx : World, Calls Try.prog 23 #[(.agg #[.bool an, .string ai, .string af]), (.agg #[.bool bn, .string bi, .string bf])] wx fun e w' => e = .returned (.tuple #[(.agg #[.bool dn, .string di, .string df]), .int .i64 e1]) ∧ Below wx.heap.size wx w')) (H2 : (∀ wx : World, Calls Try.prog 23 #[(.agg #[.bool bn, .string bi, .string bf]), (.agg #[.bool an, .string ai, .string af])] wx fun e w' => e = .returned (.tuple #[(.agg #[.bool dn, .string di, .string df]), .int .i64 e1]) ∧ Below wx.heap.size wx w')) (H3 : (∀ wx : World, Calls Try.prog 23 #[(.agg #[.bool bn, .string bi, .string bf]), (.agg #[.bool cn, .string ci, .string cf])] wx fun e w' => e = .returned (.tuple #[(.agg #[.bool gn, .string gi, .string gf]), .int .i64 e3]) ∧ Below wx.heap.size wx w')) (HS : e1 = 0 → e3 = 0 → ∃ (xn : Bool) (xi xf : ByteArray) (k : Int), (∀ wx : World, Calls Try.prog 23 #[(.agg #[.bool dn, .string di, .string df]), (.agg #[.bool cn, .string ci, .string cf])] wx fun e w' => e = .returned (.tuple #[(.agg #[.bool xn, .string xi, .string xf]), .int .i64 k]) ∧ Below wx.heap.size wx w') ∧ (∀ wx : World, Calls Try.prog 23 #[(.agg #[.bool an, .string ai, .string af]), (.agg #[.bool gn, .string gi, .string gf])] wx fun e w' => e = .returned (.tuple #[(.agg #[.bool xn, .string xi, .string xf]), .int .i64 k]) ∧ Below wx.heap.size wx w')) (H4 : (∀ wx : World, Calls Try.prog 28 #[(.agg #[.bool an, .string ai, .string af]), (.agg #[.bool bn, .string bi, .string bf])] wx fun e w' => e = .returned (.tuple #[(.agg #[.bool pn, .string pi, .string pf]), .int .i64 f1]) ∧ Below wx.heap.size wx w')) (H5 : (∀ wx : World, Calls Try.prog 28 #[(.agg #[.bool bn, .string bi, .string bf]), (.agg #[.bool an, .string ai, .string af])] wx fun e w' => e = .returned (.tuple #[(.agg #[.bool pn, .string pi, .string pf]), .int .i64 f1]) ∧ Below wx.heap.size wx w')) (H6 : (∀ wx : World, Calls Try.prog 28 #[(.agg #[.bool bn, .string bi, .string bf]), (.agg #[.bool cn, .string ci, .string cf])] wx fun e w' => e = .returned (.tuple #[(.agg #[.bool rn, .string ri, .string rf]), .int .i64 f3]) ∧ Below wx.heap.size wx w')) (H7 : (∀ wx : World, Calls Try.prog 28 #[(.agg #[.bool an, .string ai, .string af]), (.agg #[.bool cn, .string ci, .string cf])] wx fun e w' => e = .returned (.tuple #[(.agg #[.bool sn, .string si, .string sf]), .int .i64 f4]) ∧ Below wx.heap.size wx w')) (HM : f1 = 0 → f3 = 0 → ∃ (xn : Bool) (xi xf : ByteArray) (k : Int), (∀ wx : World, Calls Try.prog 28 #[(.agg #[.bool pn, .string pi, .string pf]), (.agg #[.bool cn, .string ci, .string cf])] wx fun e w' => e = .returned (.tuple #[(.agg #[.bool xn, .string xi, .string xf]), .int .i64 k]) ∧ Below wx.heap.size wx w') ∧ (∀ wx : World, Calls Try.prog 28 #[(.agg #[.bool an, .string ai, .string af]), (.agg #[.bool rn, .string ri, .string rf])] wx fun e w' => e = .returned (.tuple #[(.agg #[.bool xn, .string xi, .string xf]), .int .i64 k]) ∧ Below wx.heap.size wx w')) (HD : e3 = 0 → f1 = 0 → f4 = 0 → ∃ (xn : Bool) (xi xf : ByteArray) (k : Int) (yn : Bool) (yi yf : ByteArray) (m : Int), (∀ wx : World, Calls Try.prog 28 #[(.agg #[.bool an, .string ai, .string af]), (.agg #[.bool gn, .string gi, .string gf])] wx fun e w' => e = .returned (.tuple #[(.agg #[.bool xn, .string xi, .string xf]), .int .i64 k]) ∧ Below wx.heap.size wx w') ∧ (∀ wx : World, Calls Try.prog 23 #[(.agg #[.bool pn, .string pi, .string pf]), (.agg #[.bool sn, .string si, .string sf])] wx fun e w' => e = .returned (.tuple #[(.agg #[.bool yn, .string yi, .string yf]), .int .i64 m]) ∧ Below wx.heap.size wx w') ∧ (k = 0 → m = 0 → (∀ wx : World, Calls Try.prog 41 #[(.agg #[.bool xn, .string xi, .string xf]), (.agg #[.bool yn, .string yi, .string yf])] wx fun e w' => e = .returned (.bool true) ∧ Below wx.heap.size wx w'))) (H8 : (∀ wx : World, Calls Try.prog 26 #[(.agg #[.bool an, .string ai, .string af]), (.agg #[.bool bn, .string bi, .string bf])] wx fun e w' => e = .returned (.tuple #[(.agg #[.bool hn, .string hi, .string hf]), .int .i64 e8]) ∧ Below wx.heap.size wx w')) (HZ : e8 = 0 → ∃ (zn : Bool) (zi zf : ByteArray) (m : Int), (∀ wx : World, Calls Try.prog 23 #[(.agg #[.bool hn, .string hi, .string hf]), (.agg #[.bool bn, .string bi, .string bf])] wx fun e w' => e = .returned (.tuple #[(.agg #[.bool zn, .string zi, .string zf]), .int .i64 m]) ∧ Below wx.heap.size wx w') ∧ (m = 0 → (∀ wx : World, Calls Try.prog 41 #[(.agg #[.bool zn, .string zi, .string zf]), (.agg #[.bool an, .string ai, .string af])] wx fun e w' => e = .returned (.bool true) ∧ Below wx.heap.size wx w'))) :
    Calls Try.prog 10 #[(.agg #[.bool an, .string ai, .string af]), (.agg #[.bool bn, .string bi, .string bf]), (.agg #[.bool cn, .string ci, .string cf])] w fun e w' => e = .returned (.bool true) ∧ Below w.heap.size w w' := by
  cases ge1 : (e1 == 0) with
  | true =>
    cases ge3 : (e3 == 0) with
    | true =>
      cases gf1 : (f1 == 0) with
      | true =>
        cases gf3 : (f3 == 0) with
        | true =>
          cases gf4 : (f4 == 0) with
          | true =>
            exact ring_ooooo (w := w) (HF := HF) (H1 := H1) (H2 := H2) (H3 := H3) (HS := HS) (H4 := H4) (H5 := H5) (H6 := H6) (H7 := H7) (HM := HM) (HD := HD) (H8 := H8) (HZ := HZ) (ge1 := ge1) (ge3 := ge3) (gf1 := gf1) (gf3 := gf3) (gf4 := gf4)
          | false =>
            exact ring_ooooe (w := w) (HF := HF) (H1 := H1) (H2 := H2) (H3 := H3) (HS := HS) (H4 := H4) (H5 := H5) (H6 := H6) (H7 := H7) (HM := HM) (HD := HD) (H8 := H8) (HZ := HZ) (ge1 := ge1) (ge3 := ge3) (gf1 := gf1) (gf3 := gf3) (gf4 := gf4)
        | false =>
          cases gf4 : (f4 == 0) with
          | true =>
            exact ring_oooeo (w := w) (HF := HF) (H1 := H1) (H2 := H2) (H3 := H3) (HS := HS) (H4 := H4) (H5 := H5) (H6 := H6) (H7 := H7) (HM := HM) (HD := HD) (H8 := H8) (HZ := HZ) (ge1 := ge1) (ge3 := ge3) (gf1 := gf1) (gf3 := gf3) (gf4 := gf4)
          | false =>
            exact ring_oooee (w := w) (HF := HF) (H1 := H1) (H2 := H2) (H3 := H3) (HS := HS) (H4 := H4) (H5 := H5) (H6 := H6) (H7 := H7) (HM := HM) (HD := HD) (H8 := H8) (HZ := HZ) (ge1 := ge1) (ge3 := ge3) (gf1 := gf1) (gf3 := gf3) (gf4 := gf4)
      | false =>
        exact ring_ooeaa (w := w) (HF := HF) (H1 := H1) (H2 := H2) (H3 := H3) (HS := HS) (H4 := H4) (H5 := H5) (H6 := H6) (H7 := H7) (HM := HM) (HD := HD) (H8 := H8) (HZ := HZ) (ge1 := ge1) (ge3 := ge3) (gf1 := gf1)
    | false =>
      cases gf1 : (f1 == 0) with
      | true =>
        cases gf3 : (f3 == 0) with
        | true =>
          exact ring_oeooa (w := w) (HF := HF) (H1 := H1) (H2 := H2) (H3 := H3) (HS := HS) (H4 := H4) (H5 := H5) (H6 := H6) (H7 := H7) (HM := HM) (HD := HD) (H8 := H8) (HZ := HZ) (ge1 := ge1) (ge3 := ge3) (gf1 := gf1) (gf3 := gf3)
        | false =>
          exact ring_oeoea (w := w) (HF := HF) (H1 := H1) (H2 := H2) (H3 := H3) (HS := HS) (H4 := H4) (H5 := H5) (H6 := H6) (H7 := H7) (HM := HM) (HD := HD) (H8 := H8) (HZ := HZ) (ge1 := ge1) (ge3 := ge3) (gf1 := gf1) (gf3 := gf3)
      | false =>
        exact ring_oeeaa (w := w) (HF := HF) (H1 := H1) (H2 := H2) (H3 := H3) (HS := HS) (H4 := H4) (H5 := H5) (H6 := H6) (H7 := H7) (HM := HM) (HD := HD) (H8 := H8) (HZ := HZ) (ge1 := ge1) (ge3 := ge3) (gf1 := gf1)
  | false =>
    cases ge3 : (e3 == 0) with
    | true =>
      cases gf1 : (f1 == 0) with
      | true =>
        cases gf3 : (f3 == 0) with
        | true =>
          cases gf4 : (f4 == 0) with
          | true =>
            exact ring_eoooo (w := w) (HF := HF) (H1 := H1) (H2 := H2) (H3 := H3) (HS := HS) (H4 := H4) (H5 := H5) (H6 := H6) (H7 := H7) (HM := HM) (HD := HD) (H8 := H8) (HZ := HZ) (ge1 := ge1) (ge3 := ge3) (gf1 := gf1) (gf3 := gf3) (gf4 := gf4)
          | false =>
            exact ring_eoooe (w := w) (HF := HF) (H1 := H1) (H2 := H2) (H3 := H3) (HS := HS) (H4 := H4) (H5 := H5) (H6 := H6) (H7 := H7) (HM := HM) (HD := HD) (H8 := H8) (HZ := HZ) (ge1 := ge1) (ge3 := ge3) (gf1 := gf1) (gf3 := gf3) (gf4 := gf4)
        | false =>
          cases gf4 : (f4 == 0) with
          | true =>
            exact ring_eooeo (w := w) (HF := HF) (H1 := H1) (H2 := H2) (H3 := H3) (HS := HS) (H4 := H4) (H5 := H5) (H6 := H6) (H7 := H7) (HM := HM) (HD := HD) (H8 := H8) (HZ := HZ) (ge1 := ge1) (ge3 := ge3) (gf1 := gf1) (gf3 := gf3) (gf4 := gf4)
          | false =>
            exact ring_eooee (w := w) (HF := HF) (H1 := H1) (H2 := H2) (H3 := H3) (HS := HS) (H4 := H4) (H5 := H5) (H6 := H6) (H7 := H7) (HM := HM) (HD := HD) (H8 := H8) (HZ := HZ) (ge1 := ge1) (ge3 := ge3) (gf1 := gf1) (gf3 := gf3) (gf4 := gf4)
      | false =>
        exact ring_eoeaa (w := w) (HF := HF) (H1 := H1) (H2 := H2) (H3 := H3) (HS := HS) (H4 := H4) (H5 := H5) (H6 := H6) (H7 := H7) (HM := HM) (HD := HD) (H8 := H8) (HZ := HZ) (ge1 := ge1) (ge3 := ge3) (gf1 := gf1)
    | false =>
      cases gf1 : (f1 == 0) with
      | true =>
        cases gf3 : (f3 == 0) with
        | true =>
          exact ring_eeooa (w := w) (HF := HF) (H1 := H1) (H2 := H2) (H3 := H3) (HS := HS) (H4 := H4) (H5 := H5) (H6 := H6) (H7 := H7) (HM := HM) (HD := HD) (H8 := H8) (HZ := HZ) (ge1 := ge1) (ge3 := ge3) (gf1 := gf1) (gf3 := gf3)
        | false =>
          exact ring_eeoea (w := w) (HF := HF) (H1 := H1) (H2 := H2) (H3 := H3) (HS := HS) (H4 := H4) (H5 := H5) (H6 := H6) (H7 := H7) (HM := HM) (HD := HD) (H8 := H8) (HZ := HZ) (ge1 := ge1) (ge3 := ge3) (gf1 := gf1) (gf3 := gf3)
      | false =>
        exact ring_eeeaa (w := w) (HF := HF) (H1 := H1) (H2 := H2) (H3 := H3) (HS := HS) (H4 := H4) (H5 := H5) (H6 := H6) (H7 := H7) (HM := HM) (HD := HD) (H8 := H8) (HZ := HZ) (ge1 := ge1) (ge3 := ge3) (gf1 := gf1)

theorem oE_some {o : Option Dc} (h : oE o = 0) : ∃ d, o = some d := by
  cases o with
  | none => exact absurd h (by decide)
  | some d => exact ⟨d, rfl⟩

theorem ring_walk (an : Bool) (ai af : ByteArray) (bn : Bool) (bi bf : ByteArray) (cn : Bool) (ci cf : ByteArray) (w : World) (h1 : ai.size ≤ 140737488355328) (h2 : af.size ≤ 140737488355328) (h3 : bi.size ≤ 140737488355328) (h4 : bf.size ≤ 140737488355328) (h5 : ci.size ≤ 140737488355328) (h6 : cf.size ≤ 140737488355328) :
    Calls Try.prog 10 #[.agg #[.bool an, .string ai, .string af], .agg #[.bool bn, .string bi, .string bf], .agg #[.bool cn, .string ci, .string cf]] w fun e w' => e = .returned (.bool true) ∧ Below w.heap.size w w' := by
  have HF := fun wx => fine_3 an bn cn ai af bi bf ci cf wx h1 h2 h3 h4 h5 h6
  cases hk : (okB an ai af && (okB bn bi bf && (okB cn ci cf && true))) with
  | false =>
    rw [hk] at HF
    exact ring_bad an bn cn ai af bi bf ci cf w (fun g wx hg => by subst hg; exact HF wx)
  | true =>
    rw [hk] at HF
    simp only [Bool.and_eq_true, and_true] at hk
    obtain ⟨ka, kb, kc⟩ := hk
    obtain ⟨a, ha, rfl, rfl, rfl⟩ := ok_cases ka
    obtain ⟨b, hb, rfl, rfl, rfl⟩ := ok_cases kb
    obtain ⟨c, hc, rfl, rfl, rfl⟩ := ok_cases kc
    clear h1 h2 h3 h4 h5 h6 ka kb kc
    refine ring_core (w := w) (HF := fun g wx hg => by subst hg; exact HF wx) (H1 := fun wx => add_ok a b wx (sumD a b) rfl ha hb) (H2 := fun wx => add_ok b a wx (sumD a b) (sum_comm b a) hb ha) (H3 := fun wx => add_ok b c wx (sumD b c) rfl hb hc)
      (H4 := fun wx => mul_ok a b wx (mulD a b) rfl ha hb) (H5 := fun wx => mul_ok b a wx (mulD a b) (mul_comm b a) hb ha) (H6 := fun wx => mul_ok b c wx (mulD b c) rfl hb hc) (H7 := fun wx => mul_ok a c wx (mulD a c) rfl ha hc) (H8 := fun wx => sub_ok a b wx (subD a b) rfl ha hb) (HS := ?_) (HM := ?_) (HD := ?_) (HZ := ?_)
    · intro q1 q3
      obtain ⟨d, hd⟩ := oE_some q1
      obtain ⟨g, hg⟩ := oE_some q3
      rw [hd, hg]
      exact ⟨_, _, _, _, fun wx => add_ok d c wx (sumD d c) rfl (mk_some hd).2.2.1 hc, fun wx => add_ok a g wx (sumD d c) (sum_assoc hd hg).symm ha (mk_some hg).2.2.1⟩
    · intro q1 q3
      obtain ⟨d, hd⟩ := oE_some q1
      obtain ⟨g, hg⟩ := oE_some q3
      rw [hd, hg]
      exact ⟨_, _, _, _, fun wx => mul_ok d c wx (mulD d c) rfl (mk_some hd).2.2.1 hc, fun wx => mul_ok a g wx (mulD d c) (mul_assoc hd hg).symm ha (mk_some hg).2.2.1⟩
    · intro q3 q1 q4
      obtain ⟨g, hg⟩ := oE_some q3
      obtain ⟨p, hp⟩ := oE_some q1
      obtain ⟨s, hs⟩ := oE_some q4
      rw [hg, hp, hs]
      refine ⟨_, _, _, _, _, _, _, _, fun wx => mul_ok a g wx (mulD a g) rfl ha (mk_some hg).2.2.1, fun wx => add_ok p s wx (sumD p s) rfl (mk_some hp).2.2.1 (mk_some hs).2.2.1, ?_⟩
      intro k m
      obtain ⟨x, hx⟩ := oE_some k
      obtain ⟨y, hy⟩ := oE_some m
      rw [hx, hy]
      exact fun wx => great_yes x y wx (mk_some hx).2.2.1 (mk_some hy).2.2.1 (mul_sum hg hp hs hx hy)
    · intro q
      obtain ⟨h, hh⟩ := oE_some q
      rw [hh]
      refine ⟨_, _, _, _, fun wx => add_ok h b wx (sumD h b) rfl (mk_some hh).2.2.1 hb, ?_⟩
      intro m
      obtain ⟨z, hz⟩ := oE_some m
      rw [hz]
      exact fun wx => great_yes z a wx (mk_some hz).2.2.1 ha (sub_add hh hz)
end Go.Proofs.Ytohppejblbeemaa
