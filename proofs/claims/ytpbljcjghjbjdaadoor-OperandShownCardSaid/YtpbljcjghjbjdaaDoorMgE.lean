/- Operands, merged: Ocp, OrE, OrF, OrG, LawOv, HoldKit, HoldOps, RelArg, LawOv2. -/
import Derived.Test.YtpbljcjghjbjdaaDoorOpV
import Derived.Deep.AppendSrc
import Derived.OwnWalk
import Derived.Laws.Append
import Derived.Deep.Upon
import Derived.Test.YtpbljcjghjbjdaaDoorMgD
import Derived.Test.YtpbljcjghjbjdaaDoorDRefCompare
import Derived.Test.YtpbljcjghjbjdaaDoorDRefTrim
import Derived.Test.YtpbljcjghjbjdaaDoorOpF
import Derived.Test.YtpbljcjghjbjdaaDoorRows
import Derived.ProofKit
import Derived.OpenShut
import Derived.SizedLaws
import Derived.Lib.SmallJoins
namespace Go.Proofs.YtpbljcjghjbjdaaDoor
section
open Go.RowKit
attribute [local go_sem ↓] Go.wp_at_zero Go.wp_at_succ

/-- The cells of spans, from a place of a block on. -/
def SpnA (W : World) (g off : Nat) (l : List (ByteArray × ByteArray)) : Prop := ∀ k, k < l.length → W.cell? ⟨g, off + k * 2, none⟩ = some (.string (l.getD k dp).1) ∧ W.cell? ⟨g, off + k * 2 + 1, none⟩ = some (.string (l.getD k dp).2)
theorem SpnA.keep {W w' : World} {g off : Nat} {l : List (ByteArray × ByteArray)} (h : SpnA W g off l) (hb : Below W.heap.size W w') (hlt : g < W.heap.size) : SpnA w' g off l :=
  fun k hk => ⟨(hb.cell (p := ⟨g, off + k * 2, none⟩) hlt).trans (h k hk).1, (hb.cell (p := ⟨g, off + k * 2 + 1, none⟩) hlt).trans (h k hk).2⟩
/-- The flat cells of spans. -/
def flatV (l : List (ByteArray × ByteArray)) : List Value := (List.range (l.length * 2)).map fun j => if j % 2 = 0 then .string (l.getD (j / 2) dp).1 else .string (l.getD (j / 2) dp).2
theorem flatV_len (l : List (ByteArray × ByteArray)) : (flatV l).length = l.length * 2 := by simp [flatV]
theorem flatV_at (l : List (ByteArray × ByteArray)) (j : Nat) (h : j < l.length * 2) : (flatV l)[j]? = some (if j % 2 = 0 then .string (l.getD (j / 2) dp).1 else .string (l.getD (j / 2) dp).2) := by
  unfold flatV
  rw [List.getElem?_map, List.getElem?_range h]
  rfl
theorem flatV_even (l : List (ByteArray × ByteArray)) (k : Nat) (h : k < l.length) : (flatV l)[k * 2]? = some (.string (l.getD k dp).1) := by
  rw [flatV_at l _ (by omega), if_pos (by omega), show k * 2 / 2 = k by omega]
theorem flatV_odd (l : List (ByteArray × ByteArray)) (k : Nat) (h : k < l.length) : (flatV l)[k * 2 + 1]? = some (.string (l.getD k dp).2) := by
  rw [flatV_at l _ (by omega), if_neg (by omega), show (k * 2 + 1) / 2 = k by omega]
theorem span_info : (Tryd.prog.info? 93).map (fun i => (i.zero, i.size, i.bytes)) = some (some (.agg #[.string ⟨#[]⟩, .string ⟨#[]⟩]), 2, 32) := by kernel_rfl

theorem fresh_at (w : World) (o : Array Value) (j : Nat) {t : TypeId} : (w.alloc (.cells o t)).cell? ⟨w.heap.size, j, none⟩ = o[j]? := by simp
theorem fresh_open (w : World) (o : Array Value) (i : Nat) {t : TypeId} : (w.alloc (.cells o t)).frozen? ⟨w.heap.size, i, none⟩ = false := by simp
/-- A fresh list of spans appended to an empty one: as one step of a walk. -/
theorem wpList_append_spans {ops : Array Oper} {rest : List Oper} {o : Oper} {a : Act} {Q : Exit → Act → World → Prop} (w : World)
    (hg : o.guard = none) (s x : Operand) (hop : o.op = Op.call { callee := Callee.builtin Builtin.append, args := #[s, x], argTypes := #[37, 37] })
    (ad0 : Option Addr) (hs : a.eval s = .slice ad0 0 0) (g off n cap : Nat) (l : List (ByteArray × ByteArray)) (hx : a.eval x = .slice (some ⟨g, off, none⟩) n cap) (hS : SpnA w g off l) (hl : l.length = n) (h1 : 1 ≤ n) (hn : n * 32 ≤ 140737488355328)
    (hK : ∀ cap' w', Below w.heap.size w w' → w.heap.size + 1 ≤ w'.heap.size → Spn w' w.heap.size l → (∀ i, w'.frozen? ⟨w.heap.size, i, none⟩ = false) → wpList Tryd.prog ops Q rest (a.put o.dst (.slice (some ⟨w.heap.size, 0, none⟩) n cap')) w') :
    wpList Tryd.prog ops Q (o :: rest) a w := by
  refine wpList_plain hg fun K hK' => ?_
  obtain ⟨i, hi, hz0, hz1, hz2⟩ := info_parts span_info
  have hsrc : Src Tryd.prog i.size 37 (.slice (some ⟨g, off, none⟩) n cap) n (flatV l) w := by
    refine Src.ofSlice w Tryd.underlying37 ⟨g, off, none⟩ n cap (flatV l) (by rw [flatV_len, hz1, hl]) (fun j u hj => ?_) (fun u hu => ?_)
    · have hlt : j < l.length * 2 := by have := (List.getElem?_eq_some_iff.1 hj).1; rwa [flatV_len] at this
      have hadd : (⟨g, off, none⟩ : Addr).add j = ⟨g, off + j, none⟩ := by unfold Addr.add; split <;> simp_all
      rw [hadd]
      rw [flatV_at l j hlt] at hj
      have e := Option.some.inj hj
      rw [← e]
      have hk : j / 2 < l.length := by omega
      by_cases h0 : j % 2 = 0
      · rw [if_pos h0]
        have := (hS (j / 2) hk).1
        rwa [show off + j / 2 * 2 = off + j by omega] at this
      · rw [if_neg h0]
        have := (hS (j / 2) hk).2
        rwa [show off + j / 2 * 2 + 1 = off + j by omega] at this
    · unfold flatV at hu
      obtain ⟨j, _, rfl⟩ := List.mem_map.1 hu
      split <;> rfl
  have hrun := run_append_grow_src (P := Tryd.prog) w 37 37 o.type 93 i _ Tryd.underlying37 hi hz0 ad0 0 0 [] (by cases ad0 with | none => exact run_firstCells_none w.drew i.size 0 0 0 | some ad => exact run_firstCells_some w.drew i.size 0 ad 0 0 [] (by simp) (fun j u h => by simp at h)) _ n (flatV l) hsrc (by omega) (by omega) (growslice_fits (by omega) (by rw [hz2]; omega))
  rw [Nat.zero_add] at hrun
  unfold Oper.wp
  simp [execOp, hop, resolve, invoke, builtin, hs, hx, hrun, Result.andThen]
  have hbd : Below w.heap.size w w.drew := ⟨rfl, rfl, rfl, Nat.le_refl _, fun _ _ => rfl⟩
  generalize hZ : Builtin.zeroCells (Value.agg #[Value.string ⟨#[]⟩, Value.string ⟨#[]⟩]).cells (grownCap w n 0 93 - n) = Z
  have hat : ∀ j, j < l.length * 2 → (w.drew.alloc (.cells ((flatV l).toArray ++ Z) 93)).cell? ⟨w.heap.size, j, none⟩ = (flatV l)[j]? := fun j hj => (fresh_at w.drew _ j).trans (by
    rw [Array.getElem?_append_left (by simpa [flatV_len] using hj)]
    simp)
  refine hK' _ _ (hK _ _ (hbd.alloc (Nat.le_refl _) _) (by simp) (fun k hk => ⟨?_, ?_⟩) (fun i => ?_))
  · rw [hat _ (by omega), flatV_even l k hk]
  · rw [hat _ (by omega), flatV_odd l k hk]
  · exact fresh_open w.drew _ i

theorem res_cells5 {W : World} {b : Nat} {x0 x1 x2 x3 x4 : Value} (h : Cells5 W b x0 x1 x2 x3 x4) (y0 y1 y2 y3 y4 : Value) : (W.setCell ⟨b, 0, none⟩ y0).cell? ⟨b, 0, none⟩ = some y0 ∧ ((W.setCell ⟨b, 0, none⟩ y0).setCell ⟨b, 1, none⟩ y1).cell? ⟨b, 1, none⟩ = some y1 ∧ (((W.setCell ⟨b, 0, none⟩ y0).setCell ⟨b, 1, none⟩ y1).setCell ⟨b, 2, none⟩ y2).cell? ⟨b, 2, none⟩ = some y2 ∧ ((((W.setCell ⟨b, 0, none⟩ y0).setCell ⟨b, 1, none⟩ y1).setCell ⟨b, 2, none⟩ y2).setCell ⟨b, 3, none⟩ y3).cell? ⟨b, 3, none⟩ = some y3 ∧ (((((W.setCell ⟨b, 0, none⟩ y0).setCell ⟨b, 1, none⟩ y1).setCell ⟨b, 2, none⟩ y2).setCell ⟨b, 3, none⟩ y3).setCell ⟨b, 4, none⟩ y4).cell? ⟨b, 4, none⟩ = some y4 :=
  ⟨cell_set_same _ _ _ _ h.1, cell_set_same _ _ _ _ (cell_set_far _ _ _ _ _ _ (by decide) h.2.1), cell_set_same _ _ _ _ (cell_set_far _ _ _ _ _ _ (by decide) (cell_set_far _ _ _ _ _ _ (by decide) h.2.2.1)), cell_set_same _ _ _ _ (cell_set_far _ _ _ _ _ _ (by decide) (cell_set_far _ _ _ _ _ _ (by decide) (cell_set_far _ _ _ _ _ _ (by decide) h.2.2.2.1))), cell_set_same _ _ _ _ (cell_set_far _ _ _ _ _ _ (by decide) (cell_set_far _ _ _ _ _ _ (by decide) (cell_set_far _ _ _ _ _ _ (by decide) (cell_set_far _ _ _ _ _ _ (by decide) h.2.2.2.2))))⟩
theorem res_below5 {W w : World} {B b : Nat} (hB : Below B w W) (hb : B ≤ b) (y0 y1 y2 y3 y4 : Value) : Below B w (((((W.setCell ⟨b, 0, none⟩ y0).setCell ⟨b, 1, none⟩ y1).setCell ⟨b, 2, none⟩ y2).setCell ⟨b, 3, none⟩ y3).setCell ⟨b, 4, none⟩ y4) :=
  (((((hB.setCell (p := ⟨b, 0, none⟩) hb _).setCell (p := ⟨b, 1, none⟩) hb _).setCell (p := ⟨b, 2, none⟩) hb _).setCell (p := ⟨b, 3, none⟩) hb _).setCell (p := ⟨b, 4, none⟩) hb _)
theorem far_cells5 {W : World} {b c i : Nat} {x0 x1 x2 x3 x4 v : Value} (h : Cells5 W b x0 x1 x2 x3 x4) (hne : b ≠ c) : Cells5 (W.setCell ⟨c, i, none⟩ v) b x0 x1 x2 x3 x4 := by
  have e : ∀ o, (W.setCell ⟨c, i, none⟩ v).cell? ⟨b, o, none⟩ = W.cell? ⟨b, o, none⟩ := fun o => World.cell?_setCell_other _ _ _ _ (fun e => hne (congrArg Addr.block e).symm)
  exact ⟨(e 0).trans h.1, (e 1).trans h.2.1, (e 2).trans h.2.2.1, (e 3).trans h.2.2.2.1, (e 4).trans h.2.2.2.2⟩
theorem far_spn {W : World} {b c i : Nat} {l : List (ByteArray × ByteArray)} {v : Value} (h : Spn W b l) (hne : b ≠ c) : Spn (W.setCell ⟨c, i, none⟩ v) b l := by
  have e : ∀ o, (W.setCell ⟨c, i, none⟩ v).cell? ⟨b, o, none⟩ = W.cell? ⟨b, o, none⟩ := fun o => World.cell?_setCell_other _ _ _ _ (fun e => hne (congrArg Addr.block e).symm)
  exact fun k hk => ⟨(e _).trans (h k hk).1, (e _).trans (h k hk).2⟩

set_option maxHeartbeats 4000000 in
set_option maxRecDepth 100000 in
theorem copied_any (rO rM : ByteArray) (rN rW : Bool) (g off n cap : Nat) (l : List (ByteArray × ByteArray)) (w : World) (hs : SpnA w g off l) (hg : g < w.heap.size) (hl : l.length = n) (h1 : 1 ≤ n) (hn : n * 32 ≤ 140737488355328) :
    Calls Tryd.prog 26 #[.agg #[.string rO, .string rM, .bool rN, .bool rW, .slice (some ⟨g, off, none⟩) n cap]] w fun e w' => ∃ g' cap', e = .returned (.agg #[.string rO, .string rM, .bool rN, .bool rW, .slice (some ⟨g', 0, none⟩) n cap']) ∧ Below w.heap.size w w' ∧ g' < w'.heap.size ∧ Spn w' g' l := by
  obtain ⟨W3, hW3⟩ : ∃ W3, W3 = ((w.alloc (.cells #[.string rO, .string rM, .bool rN, .bool rW, .slice (some ⟨g, off, none⟩) n cap] 39)).alloc (.cells #[.string ⟨#[]⟩, .string ⟨#[]⟩, .bool false, .bool false, .slice none 0 0] 39)).alloc (.cells #[] 93) := ⟨_, rfl⟩
  obtain ⟨B3, z3, CR, F0, F1, S3, CZ⟩ : Below w.heap.size w W3 ∧ W3.heap.size = w.heap.size + 1 + 1 + 1 ∧ Cells5 W3 w.heap.size (.string rO) (.string rM) (.bool rN) (.bool rW) (.slice (some ⟨g, off, none⟩) n cap) ∧ (∀ i, W3.frozen? ⟨w.heap.size, i, none⟩ = false) ∧ (∀ i, W3.frozen? ⟨w.heap.size + 1, i, none⟩ = false) ∧ SpnA W3 g off l ∧ Cells5 W3 (w.heap.size + 1) (.string ⟨#[]⟩) (.string ⟨#[]⟩) (.bool false) (.bool false) (.slice none 0 0) := by
    rw [hW3]
    have b1 : Below w.heap.size w (w.alloc (.cells #[.string rO, .string rM, .bool rN, .bool rW, .slice (some ⟨g, off, none⟩) n cap] 39)) := (Below.refl _ w).alloc (Nat.le_refl _) _
    obtain ⟨h1, h2, h3⟩ := five_box w (.string rO) (.string rM) (.bool rN) (.bool rW) (.slice (some ⟨g, off, none⟩) n cap) 39
    have hs1 : (w.alloc (.cells #[.string rO, .string rM, .bool rN, .bool rW, .slice (some ⟨g, off, none⟩) n cap] 39)).heap.size = w.heap.size + 1 := by simp
    generalize w.alloc (.cells #[.string rO, .string rM, .bool rN, .bool rW, .slice (some ⟨g, off, none⟩) n cap] 39) = w1 at *
    obtain ⟨k1, k2, k3⟩ := five_box w1 (.string ⟨#[]⟩) (.string ⟨#[]⟩) (.bool false) (.bool false) (.slice none 0 0) 39
    have b2 : Below w1.heap.size w1 (w1.alloc (.cells #[.string ⟨#[]⟩, .string ⟨#[]⟩, .bool false, .bool false, .slice none 0 0] 39)) := (Below.refl _ w1).alloc (Nat.le_refl _) _
    have hs2 : (w1.alloc (.cells #[.string ⟨#[]⟩, .string ⟨#[]⟩, .bool false, .bool false, .slice none 0 0] 39)).heap.size = w1.heap.size + 1 := by simp
    generalize w1.alloc (.cells #[.string ⟨#[]⟩, .string ⟨#[]⟩, .bool false, .bool false, .slice none 0 0] 39) = w2 at *
    have b3 : Below w2.heap.size w2 (w2.alloc (.cells #[] 93)) := (Below.refl _ w2).alloc (Nat.le_refl _) _
    have hs3 : (w2.alloc (.cells #[] 93)).heap.size = w2.heap.size + 1 := by simp
    generalize w2.alloc (.cells #[] 93) = w3 at *
    rw [hs1] at k3 k2
    have b12 : Below w1.heap.size w1 w3 := b2.trans (b3.mono b2.size)
    have bb : Below w.heap.size w w3 := b1.trans (b12.mono b1.size)
    exact ⟨bb, by omega, h2.keep b12 (by omega), frozen_keep h3 b12 (by omega), frozen_keep k3 b3 (by omega), hs.keep bb hg, k2.keep b3 (by omega)⟩
  have HB3 := Lib.hid B3
  have HS3 := Lib.hid S3
  have HCR := Lib.hid CR
  have HF0 := Lib.hid F0
  have HF1 := Lib.hid F1
  have HW := Lib.hid hW3
  have HCZ := Lib.hid CZ
  clear B3 S3 CR F0 F1 hs CZ hW3
  go_enter Tryd.func26, Tryd.ntmps26
  go_wp2_with (at_builtin; refine wpList_append_spans _ rfl _ _ rfl _ rfl g off n cap l rfl ?c1 hl h1 hn ?_)
  case c1 =>
    have := HS3.out
    rw [HW.out] at this
    exact this
  rw [← HW.out]
  rw [← z3]
  intro cap' w' hb hz hS' hF
  obtain ⟨r0, r1, r2, r3, r4⟩ := HCR.out.keep hb (by omega)
  have HC1 := Lib.hid (HCZ.out.keep hb (by omega))
  obtain ⟨s0, s1, s2, s3, s4⟩ := HC1.out
  have f0 := frozen_keep HF0.out hb (by omega)
  have f1 := frozen_keep HF1.out hb (by omega)
  have HB4 := Lib.hid (HB3.out.trans (hb.mono HB3.out.size))
  have HSS := Lib.hid hS'
  clear hb hS' hF
  obtain ⟨e0, e1, e2, e3, e4⟩ := res_cells5 (far_cells5 (c := w.heap.size) (i := 4) (v := (.slice (some ⟨W3.heap.size, 0, none⟩) n cap')) HC1.out (by omega)) (.string rO) (.string rM) (.bool rN) (.bool rW) (.slice (some ⟨W3.heap.size, 0, none⟩) n cap')
  have HZ3 := Lib.hid z3
  rw [z3] at e0 e1 e2 e3 e4
  go_wp2
  refine bodyPost_ret (v := .agg #[.string rO, .string rM, .bool rN, .bool rW, .slice (some ⟨w.heap.size + 1 + 1 + 1, 0, none⟩) n cap']) (by simp [results, Tryd.results26, go_sem, e0, e1, e2, e3, e4]) rfl ⟨w.heap.size + 1 + 1 + 1, cap', rfl, res_below5 (HB4.out.setCell (p := ⟨w.heap.size, 4, none⟩) (Nat.le_refl _) _) (Nat.le_succ _) _ _ _ _ _, by simp; omega, ?_⟩
  have hSS := HSS.out
  rw [HZ3.out] at hSS
  exact far_spn (far_spn (far_spn (far_spn (far_spn (far_spn hSS (by omega)) (by omega)) (by omega)) (by omega)) (by omega)) (by omega)
/-- Nothing appended to an empty list. -/
theorem wpList_append_nothing {ops : Array Oper} {rest : List Oper} {o : Oper} {a : Act} {Q : Exit → Act → World → Prop} (w : World)
    (hg : o.guard = none) (s x : Operand) (hop : o.op = Op.call { callee := Callee.builtin Builtin.append, args := #[s, x], argTypes := #[37, 37] })
    (ad0 : Option Addr) (hs : a.eval s = .slice ad0 0 0) (ad : Option Addr) (cap : Nat) (hx : a.eval x = .slice ad 0 cap)
    (hK : wpList Tryd.prog ops Q rest (a.put o.dst (.slice ad0 0 0)) w) :
    wpList Tryd.prog ops Q (o :: rest) a w := by
  refine wpList_plain hg fun K hK' => ?_
  obtain ⟨i, hi, hz0, hz1, hz2⟩ := info_parts span_info
  have hsrc : Src Tryd.prog i.size 37 (.slice ad 0 cap) 0 [] w := by
    cases ad with
    | none => exact Src.ofNil w Tryd.underlying37 cap
    | some ad => exact Src.ofSlice w Tryd.underlying37 ad 0 cap [] (by simp) (fun j u h => by simp at h) (fun u h => by simp at h)
  have hrun := run_append_nothing (P := Tryd.prog) w 37 37 o.type 93 i Tryd.underlying37 hi ad0 0 0 (Nat.le_refl _) _ hsrc
  unfold Oper.wp
  simp [execOp, hop, resolve, invoke, builtin, hs, hx, hrun, Result.andThen]
  exact hK' _ _ hK

set_option maxHeartbeats 4000000 in
set_option maxRecDepth 100000 in
theorem copied_none (rO rM : ByteArray) (rN rW : Bool) (ad : Option Addr) (cap : Nat) (w : World) :
    Calls Tryd.prog 26 #[.agg #[.string rO, .string rM, .bool rN, .bool rW, .slice ad 0 cap]] w fun e w' => ∃ g' cap', e = .returned (.agg #[.string rO, .string rM, .bool rN, .bool rW, .slice (some ⟨g', 0, none⟩) 0 cap']) ∧ Below w.heap.size w w' ∧ g' < w'.heap.size := by
  go_enter Tryd.func26, Tryd.ntmps26
  go_wp2_with (at_builtin; refine wpList_append_nothing _ rfl _ _ rfl _ rfl ad cap rfl ?_)
  refine bodyPost_ret (v := .agg #[.string rO, .string rM, .bool rN, .bool rW, .slice (some ⟨w.heap.size + 1 + 1, 0, none⟩) 0 0]) (by simp [results, Tryd.results26, go_sem]) rfl ⟨w.heap.size + 1 + 1, 0, rfl, ?_, by simp⟩
  exact (((Below.refl _ w).alloc (Nat.le_refl _) _).alloc (by simp) _).alloc (by simp; omega) _
end
section
open Go.RowKit
attribute [local go_sem ↓] Go.wp_at_zero Go.wp_at_succ

theorem trim_self {d : Dc} (h : d.Ok) (t : Trimmed d) : trimD d = d := by
  obtain ⟨a1, a2, a3⟩ := trim_facts h
  exact trimmed_same a1 h a3 t a2
/-- Does a number lie in one of the first k spans? -/
def hitK (r : Dc) (l : List (ByteArray × ByteArray)) (k : Nat) : Bool := decide (∃ j, j < k ∧ decide (cmpD (spD (l.getD j dp).1) r ≤ 0) = true ∧ decide (cmpD r (spD (l.getD j dp).2) ≤ 0) = true)
theorem hitK_zero (r : Dc) (l : List (ByteArray × ByteArray)) : hitK r l 0 = false := decide_eq_false (by rintro ⟨j, hj, _⟩; omega)
theorem hitK_succ (r : Dc) (l : List (ByteArray × ByteArray)) (k : Nat) : hitK r l (k + 1) = (hitK r l k || (decide (cmpD (spD (l.getD k dp).1) r ≤ 0) && decide (cmpD r (spD (l.getD k dp).2) ≤ 0))) := by
  unfold hitK
  rw [Bool.eq_iff_iff]
  simp only [decide_eq_true_eq, Bool.or_eq_true, Bool.and_eq_true]
  constructor
  · rintro ⟨j, hj, h1, h2⟩
    by_cases e : j = k
    · subst e; exact .inr ⟨h1, h2⟩
    · exact .inl ⟨j, by omega, h1, h2⟩
  · rintro (⟨j, hj, h1, h2⟩ | ⟨h1, h2⟩)
    · exact ⟨j, by omega, h1, h2⟩
    · exact ⟨k, by omega, h1, h2⟩
def RCmpP (a b : Dc) (c : Int) : Prop := ∀ wx : World, Calls Tryd.prog 66 #[.agg #[.bool a.neg, .string (dStr a.i), .string (dStr a.f)], .agg #[.bool b.neg, .string (dStr b.i), .string (dStr b.f)]] wx fun r w' => r = .returned (.tuple #[.int .i64 c, .int .i64 0]) ∧ Below wx.heap.size wx w'
set_option maxHeartbeats 4000000 in
set_option maxRecDepth 100000 in
theorem spanis_any (x : ByteArray × ByteArray) (w : World) (h1 : x.1.size ≤ 140737488355328) (h2 : x.2.size ≤ 140737488355328) :
    Calls Tryd.prog 64 #[.agg #[.string x.1, .string x.2]] w fun e w' => e = .returned (.bool (spanB x)) ∧ Below w.heap.size w w' := by
  obtain ⟨lo, hi⟩ := x
  simp only at h1 h2 ⊢
  have N1 := fun wx => isnum_any lo wx h1
  have N2 := fun wx => isnum_any hi wx h2
  obtain ⟨s0, s1⟩ := two_box w (.string lo) (.string hi) 93
  have hb1 : Below w.heap.size w (w.alloc (.cells #[.string lo, .string hi] 93)) := (Below.refl _ w).alloc (Nat.le_refl _) _
  have HB := Lib.hid hb1
  clear hb1
  cases e1 : okB false lo ⟨#[]⟩ with
  | false =>
    have HR : Hid (spanB (lo, hi) = false) := by show _ = _; unfold spanB; simp only [e1, Bool.false_and]
    rw [e1] at N1
    have D1 := Lib.hid N1
    rw [HR.out]
    clear N1 N2 e1 h1 h2
    go_enter Tryd.func64, Tryd.ntmps64
    go_wp2_with fail
    (with_reducible refine (D1.out _).mono ?_)
    rintro e W3 ⟨rfl, rfl⟩
    go_wp2
    go_ret
    exact ⟨rfl, HB.out⟩
  | true =>
    rw [e1] at N1
    have D1 := Lib.hid N1
    cases e2 : okB false hi ⟨#[]⟩ with
    | false =>
      have HR : Hid (spanB (lo, hi) = false) := by show _ = _; unfold spanB; simp only [e1, e2, Bool.false_and, Bool.and_false]
      rw [e2] at N2
      have D2 := Lib.hid N2
      rw [HR.out]
      clear N1 N2 e1 e2 h1 h2
      go_enter Tryd.func64, Tryd.ntmps64
      go_wp2_with fail
      (with_reducible refine (D1.out _).mono ?_)
      rintro e W3 ⟨rfl, rfl⟩
      go_wp2_with fail
      (with_reducible refine (D2.out _).mono ?_)
      rintro e W4 ⟨rfl, rfl⟩
      go_wp2
      go_ret
      exact ⟨rfl, HB.out⟩
    | true =>
      rw [e2] at N2
      have D2 := Lib.hid N2
      obtain ⟨a1, a2⟩ := num_form e1
      obtain ⟨b1, b2⟩ := num_form e2
      have H : ∀ wx : World, Calls Tryd.prog 66 #[.agg #[.bool false, .string lo, .string ⟨#[]⟩], .agg #[.bool false, .string hi, .string ⟨#[]⟩]] wx fun r w' => r = .returned (.tuple #[.int .i64 (cmpD (spD lo) (spD hi)), .int .i64 0]) ∧ Below wx.heap.size wx w' := fun wx => by
        have := refCompare_ok (spD lo) (spD hi) wx a1 b1
        have e3 : dStr (spD lo).i = lo := a2.symm
        have e4 : dStr (spD hi).i = hi := b2.symm
        rw [e3, e4] at this
        exact this
      have D3 := Lib.hid H
      have HR : Hid (spanB (lo, hi) = decide (cmpD (spD lo) (spD hi) ≤ 0)) := by show _ = _; unfold spanB; simp only [e1, e2, Bool.true_and]
      rw [HR.out]
      clear N1 N2 e1 e2 h1 h2 H HR a1 a2 b1 b2
      generalize cmpD (spD lo) (spD hi) = c at *
      go_enter Tryd.func64, Tryd.ntmps64
      go_wp2_with fail
      (with_reducible refine (D1.out _).mono ?_)
      rintro e W3 ⟨rfl, rfl⟩
      go_wp2_with fail
      (with_reducible refine (D2.out _).mono ?_)
      rintro e W4 ⟨rfl, rfl⟩
      go_wp2_with fail
      (with_reducible refine (D3.out _).mono ?_)
      rintro e W5 ⟨rfl, hb⟩
      have HB2 := Lib.hid (HB.out.trans (hb.mono HB.out.size))
      clear hb
      go_wp2
      go_ret
      exact ⟨rfl, HB2.out⟩

section
variable (on : Bool) (oi oj oI : ByteArray) (oV oW : Int) (oG oT : ByteArray) (oX : Int) (rO rM : ByteArray) (rN rW : Bool)
set_option maxHeartbeats 8000000 in
set_option maxRecDepth 100000 in
theorem rin_yes (r : Dc) (hr : r.Ok) (ht : Trimmed r) (H1 : ModR (.agg #[.bool on, .string oi, .string oj, .string oI, .int .i64 oV, .int .i64 oW, .string oG, .string oT, .int .i64 oX]) rO rM (decR r 0))
    (l : List (ByteArray × ByteArray)) (g off n cap : Nat) (w : World) (hs : SpnA w g off l) (hg : g < w.heap.size) (hl : l.length = n) (hB : listB l = true)
    (hz : ∀ k, k < n → (l.getD k dp).1.size ≤ 140737488355328 ∧ (l.getD k dp).2.size ≤ 140737488355328) :
    Calls Tryd.prog 27 #[.agg #[.bool on, .string oi, .string oj, .string oI, .int .i64 oV, .int .i64 oW, .string oG, .string oT, .int .i64 oX], relV rO rM rN rW (.slice (some ⟨g, off, none⟩) n cap)] w fun e w' => e = .returned (.tuple #[.bool (inB r rW l != rN), .int .i64 0]) ∧ Below w.heap.size w w' := by
  unfold ModR decR at H1
  have D1 := Lib.hid H1
  have b64 : n ≤ 64 ∧ 1 ≤ n := by
    unfold listB at hB
    simp only [Bool.and_eq_true, decide_eq_true_eq] at hB
    omega
  have q1 : decide ((n : Int) < 1) = false := decide_eq_false (by omega)
  have q2 : decide (64 < (n : Int)) = false := decide_eq_false (by omega)
  unfold relV
  clear H1
  go_enter Tryd.func27, Tryd.ntmps27
  go_wp2_with fail
  obtain ⟨W2, hW2⟩ : ∃ W2, W2 = (w.alloc (.cells #[.bool on, .string oi, .string oj, .string oI, .int .i64 oV, .int .i64 oW, .string oG, .string oT, .int .i64 oX] 36)).alloc (.cells #[.string rO, .string rM, .bool rN, .bool rW, .slice (some ⟨g, off, none⟩) n cap] 39) := ⟨_, rfl⟩
  obtain ⟨hb2, hz2, CR⟩ : Below w.heap.size w W2 ∧ w.heap.size + 2 ≤ W2.heap.size ∧ Cells5 W2 (w.heap.size + 1) (.string rO) (.string rM) (.bool rN) (.bool rW) (.slice (some ⟨g, off, none⟩) n cap) := by
    rw [hW2]
    have c2 := (five_box (w.alloc (.cells #[.bool on, .string oi, .string oj, .string oI, .int .i64 oV, .int .i64 oW, .string oG, .string oT, .int .i64 oX] 36)) (.string rO) (.string rM) (.bool rN) (.bool rW) (.slice (some ⟨g, off, none⟩) n cap) 39).2.1
    have hs : (w.alloc (.cells #[.bool on, .string oi, .string oj, .string oI, .int .i64 oV, .int .i64 oW, .string oG, .string oT, .int .i64 oX] 36)).heap.size = w.heap.size + 1 := by simp
    rw [hs] at c2
    exact ⟨below_two w _ _, by simp, c2⟩
  have hS2 := hs.keep hb2 hg
  rw [← hW2]
  clear hW2
  (with_reducible refine (D1.out _).mono ?_)
  rintro e W3 ⟨rfl, hb3⟩
  obtain ⟨W4, hW4⟩ : ∃ W4, W4 = W3.alloc (.cells #[.bool r.neg, .string (dStr r.i), .string (dStr r.f)] 23) := ⟨_, rfl⟩
  have CX := (one_box W3 (.bool r.neg) (.string (dStr r.i)) (.string (dStr r.f)) 23).2.1
  have h24 : Below W2.heap.size W2 W4 := by rw [hW4]; exact hb3.trans (((Below.refl _ _).alloc (Nat.le_refl _) _).mono hb3.size)
  have hz4 : W3.heap.size + 1 ≤ W4.heap.size := by rw [hW4]; simp
  have hz3 := hb3.size
  rw [← hW4] at CX
  have HX := Lib.hid CX
  have HR := Lib.hid (CR.keep h24 (by omega))
  have HS := Lib.hid (hS2.keep h24 (by have := hb2.size; omega))
  have HB := Lib.hid (hb2.trans (h24.mono hb2.size))
  have HW := Lib.hid hW4
  obtain ⟨b, hb⟩ : ∃ b, b = W3.heap.size := ⟨_, rfl⟩
  have hbl : b + 1 ≤ W4.heap.size := by omega
  have hbw : w.heap.size + 2 ≤ b := by omega
  rw [← hb] at HX
  have HBB := Lib.hid hb
  have DL := Lib.hid (fun k (hk : k < n) wx => spanis_any (l.getD k dp) wx (hz k hk).1 (hz k hk).2)
  have HT : Hid (∀ wx : World, Calls Tryd.prog 65 #[.agg #[.bool r.neg, .string (dStr r.i), .string (dStr r.f)]] wx fun e w' => e = .returned (.tuple #[.agg #[.bool r.neg, .string (dStr r.i), .string (dStr r.f)], .int .i64 0]) ∧ Below wx.heap.size wx w') := fun wx => by
    have := refTrim_ok r wx hr
    rw [trim_self hr ht] at this
    exact this
  have HBL := Lib.hid hB
  have HLN := Lib.hid hl
  clear hW4 CX hb3 h24 CR hS2 hb2 hz hs hz2 hz3 hz4 hb hB hl
  have HR3 := HR.out
  rw [HW.out] at HR3
  obtain ⟨r0, r1, r2, r3, r4⟩ := HR3
  go_wp2_with fail
  rw [← HW.out, ← HBB.out]
  clear r0 r1 r2 r3 r4
  have HALL : Hid (∀ k, k < n → spanB (l.getD k dp) = true) := fun k hk => listB_at HBL.out k (by rw [HLN.out]; exact hk)
  go_loopw [8] (fun i wr => ∃ k : Nat, i = .int .i64 (k : Int) ∧ k ≤ n ∧ b + 1 ≤ wr.heap.size ∧ Below w.heap.size w wr ∧ Cells5 wr (w.heap.size + 1) (.string rO) (.string rM) (.bool rN) (.bool rW) (.slice (some ⟨g, off, none⟩) n cap) ∧ Cells3 wr b (.bool r.neg) (.string (dStr r.i)) (.string (dStr r.f)) ∧ SpnA wr g off l) (fun i _ => n - (intOf i).toNat)
  case atStart => exact ⟨0, rfl, by omega, hbl, HB.out, HR.out, HX.out, HS.out⟩
  case round =>
    obtain ⟨k, rfl, hk, hbl', hB, hR, hX, hS⟩ := hrel
    clear HB HR HX HS hbl HW HBB HBL
    have HB := Lib.hid hB
    have HR := Lib.hid hR
    have HX := Lib.hid hX
    have HS := Lib.hid hS
    clear hB hX
    obtain ⟨r0, r1, r2, r3, r4⟩ := hR
    by_cases hlt : k < n
    · obtain ⟨c0, c1⟩ := hS k (by rw [HLN.out]; exact hlt)
      have DK0 := fun wx => DL.out k hlt wx
      rw [HALL.out k hlt] at DK0
      have DK := Lib.hid DK0
      clear DK0 hS
      generalize hx : l.getD k dp = x at *
      clear hx
      obtain ⟨lo, hi⟩ := x
      simp only at c0 c1
      go_wp2_with fail
      (with_reducible refine (DK.out _).mono ?_)
      rintro e V1 ⟨rfl, hb⟩
      have HB' := Lib.hid (HB.out.trans (hb.mono HB.out.size))
      have HR' := Lib.hid (HR.out.keep hb (by omega))
      have HX' := Lib.hid (HX.out.keep hb (by omega))
      have HS' := Lib.hid (HS.out.keep hb (by omega))
      have hz' := hb.size
      clear hb r0 r1 r2 r3 r4 c0 c1
      go_wp2
      go_roundw
      case rel => exact ⟨k + 1, by go_num, by omega, by omega, HB'.out, HR'.out, HX'.out, HS'.out⟩
      case measure => simp [intOf]; omega
    · obtain ⟨x0, x1, x2⟩ := HX.out
      clear hS
      go_wp2_with fail
      (with_reducible refine (HT.out _).mono ?_)
      rintro e V1 ⟨rfl, hb⟩
      clear r0 r1 r2 r3 r4 x0 x1 x2
      obtain ⟨V2, hV2⟩ : ∃ V2, V2 = V1.alloc (.cells #[.bool r.neg, .string (dStr r.i), .string (dStr r.f)] 23) := ⟨_, rfl⟩
      have CT := (one_box V1 (.bool r.neg) (.string (dStr r.i)) (.string (dStr r.f)) 23).2.1
      have h12 : Below wr.heap.size wr V2 := by rw [hV2]; exact hb.trans (((Below.refl _ _).alloc (Nat.le_refl _) _).mono hb.size)
      have hz2 : V1.heap.size + 1 ≤ V2.heap.size := by rw [hV2]; simp
      have hz1 := hb.size
      rw [← hV2] at CT
      obtain ⟨t, htt⟩ : ∃ t, t = V1.heap.size := ⟨_, rfl⟩
      rw [← htt] at CT
      have HTT := Lib.hid CT
      have HV := Lib.hid hV2
      have HTB := Lib.hid htt
      have HB' := Lib.hid (HB.out.trans (h12.mono HB.out.size))
      have HR' := Lib.hid (HR.out.keep h12 (by omega))
      have HX' := Lib.hid (HX.out.keep h12 (by omega))
      have HS' := Lib.hid (HS.out.keep h12 (by omega))
      have htz : t + 1 ≤ V2.heap.size := by omega
      have hbz : b + 1 ≤ V2.heap.size := by omega
      clear hb h12 CT hV2 hz1 hz2 htt HB HR HX HS hbl' hlt hk
      go_wp2_with fail
      rw [← HV.out, ← HTB.out]
      have HCM : Hid (∀ k, k < n → ∀ wx : World, (Calls Tryd.prog 66 #[.agg #[.bool false, .string (l.getD k dp).1, .string ⟨#[]⟩], .agg #[.bool r.neg, .string (dStr r.i), .string (dStr r.f)]] wx fun e w' => e = .returned (.tuple #[.int .i64 (cmpD (spD (l.getD k dp).1) r), .int .i64 0]) ∧ Below wx.heap.size wx w') ∧
          (Calls Tryd.prog 66 #[.agg #[.bool r.neg, .string (dStr r.i), .string (dStr r.f)], .agg #[.bool false, .string (l.getD k dp).2, .string ⟨#[]⟩]] wx fun e w' => e = .returned (.tuple #[.int .i64 (cmpD r (spD (l.getD k dp).2)), .int .i64 0]) ∧ Below wx.heap.size wx w')) := fun k hk wx => by
        obtain ⟨o1, o2, o3, o4⟩ := span_ok (HALL.out k hk)
        have A1 := refCompare_ok (spD (l.getD k dp).1) r wx o1 hr
        have A2 := refCompare_ok r (spD (l.getD k dp).2) wx hr o2
        rw [o3] at A1
        rw [o4] at A2
        exact ⟨A1, A2⟩
      obtain ⟨wf, hwf⟩ : ∃ wf, wf = (rW || decide (r.f = [])) := ⟨_, rfl⟩
      have HWF := Lib.hid hwf
      clear hwf
      go_loopw [12, 11] (fun i s wr => ∃ k : Nat, i = .int .i64 (k : Int) ∧ s = .bool (wf && hitK r l k) ∧ k ≤ n ∧ b + 1 ≤ wr.heap.size ∧ t + 1 ≤ wr.heap.size ∧ Below w.heap.size w wr ∧ Cells5 wr (w.heap.size + 1) (.string rO) (.string rM) (.bool rN) (.bool rW) (.slice (some ⟨g, off, none⟩) n cap) ∧ Cells3 wr b (.bool r.neg) (.string (dStr r.i)) (.string (dStr r.f)) ∧ Cells3 wr t (.bool r.neg) (.string (dStr r.i)) (.string (dStr r.f)) ∧ SpnA wr g off l) (fun i _ _ => n - (intOf i).toNat)
      case atStart => exact ⟨0, rfl, by rw [hitK_zero, Bool.and_false], by omega, hbz, htz, HB'.out, HR'.out, HX'.out, HTT.out, HS'.out⟩
      case round =>
        obtain ⟨k, rfl, rfl, hk, hbz', htz', hB, hR, hX, hT, hS⟩ := hrel
        clear HB' HR' HX' HS' HTT hbz htz HV HTB
        have HB := Lib.hid hB
        have HR := Lib.hid hR
        have HX := Lib.hid hX
        have HTT := Lib.hid hT
        have HS := Lib.hid hS
        clear hB hX hT
        by_cases hlt : k < n
        · have HACC := Lib.hid (hitK_succ r l k)
          obtain ⟨c0, c1⟩ := hS k (by rw [HLN.out]; exact hlt)
          have DC1 := Lib.hid (fun wx => (HCM.out k hlt wx).1)
          have DC2 := Lib.hid (fun wx => (HCM.out k hlt wx).2)
          clear hS
          generalize hitK r l k = acc at *
          generalize cmpD (spD (l.getD k dp).1) r = e1 at *
          generalize cmpD r (spD (l.getD k dp).2) = e2 at *
          generalize hx : l.getD k dp = x at *
          clear hx
          obtain ⟨lo, hi⟩ := x
          simp only at c0 c1
          have KC0 := Lib.hid c0
          have KC1 := Lib.hid c1
          obtain ⟨r0, r1, r2, r3, r4⟩ := hR
          obtain ⟨x0, x1, x2⟩ := HX.out
          have hgw : g < wr.heap.size := by have := HB.out.size; omega
          go_wp2_with fail
          go_region_held3 (fun w' => w'.cell? ⟨w.heap.size + 1, 4, none⟩ = some (.slice (some ⟨g, off, none⟩) n cap) ∧ w'.cell? ⟨g, off + k * 2, none⟩ = some (.string lo) ∧ w'.cell? ⟨b, 0, none⟩ = some (.bool r.neg) ∧ w'.cell? ⟨b, 1, none⟩ = some (.string (dStr r.i)) ∧ w'.cell? ⟨b, 2, none⟩ = some (.string (dStr r.f)))
            (first
              | (with_reducible exact ⟨r4, c0, x0, x1, x2⟩)
              | (have t1 := HR.out.keep h1 (by omega); have t2 := HX.out.keep h1 (by omega); have t3 := (h1.cell (p := ⟨g, off + k * 2, none⟩) (by show g < _; omega)).trans KC0.out; exact ⟨t1.2.2.2.2, t3, t2.1, t2.2.1, t2.2.2⟩)
              | go_keep)
            (first
              | (go_at_call 66; (with_reducible refine (DC1.out _).mono ?_); rintro e V3 ⟨rfl, hb1⟩
                 have h1 : Below wr.heap.size wr V3 := undrew hb1))
          replace HB := Lib.hid (HB.out.trans (h1.mono HB.out.size))
          replace HR := Lib.hid (HR.out.keep h1 (by omega))
          replace HX := Lib.hid (HX.out.keep h1 (by omega))
          replace HTT := Lib.hid (HTT.out.keep h1 (by omega))
          replace HS := Lib.hid (HS.out.keep h1 (by omega))
          replace KC1 := Lib.hid ((h1.cell (p := ⟨g, off + k * 2 + 1, none⟩) (by show g < _; omega)).trans KC1.out)
          have hz1 := h1.size
          clear h1 hb1 r0 r1 r2 r3 r4 x0 x1 x2 c0 c1 KC0
          obtain ⟨r0, r1, r2, r3, r4⟩ := HR.out
          obtain ⟨x0, x1, x2⟩ := HX.out
          have c1 := KC1.out
          have hgw3 : g < V3.heap.size := by omega
          go_wp2_with fail
          go_region_held3 (fun w' => w'.cell? ⟨w.heap.size + 1, 4, none⟩ = some (.slice (some ⟨g, off, none⟩) n cap) ∧ w'.cell? ⟨g, off + k * 2 + 1, none⟩ = some (.string hi) ∧ w'.cell? ⟨b, 0, none⟩ = some (.bool r.neg) ∧ w'.cell? ⟨b, 1, none⟩ = some (.string (dStr r.i)) ∧ w'.cell? ⟨b, 2, none⟩ = some (.string (dStr r.f)))
            (first
              | (with_reducible exact ⟨r4, c1, x0, x1, x2⟩)
              | (have t1 := HR.out.keep h2 (by omega); have t2 := HX.out.keep h2 (by omega); have t3 := (h2.cell (p := ⟨g, off + k * 2 + 1, none⟩) (by show g < _; omega)).trans KC1.out; exact ⟨t1.2.2.2.2, t3, t2.1, t2.2.1, t2.2.2⟩)
              | go_keep)
            (first
              | (go_at_call 66; (with_reducible refine (DC2.out _).mono ?_); rintro e V4 ⟨rfl, hb2⟩
                 have h2 : Below V3.heap.size V3 V4 := undrew hb2))
          replace HB := Lib.hid (HB.out.trans (h2.mono HB.out.size))
          replace HR := Lib.hid (HR.out.keep h2 (by omega))
          replace HX := Lib.hid (HX.out.keep h2 (by omega))
          replace HTT := Lib.hid (HTT.out.keep h2 (by omega))
          replace HS := Lib.hid (HS.out.keep h2 (by omega))
          have hz4 := h2.size
          clear h2 hb2 r0 r1 r2 r3 r4 x0 x1 x2 c1 KC1
          obtain ⟨r0, r1, r2, r3, r4⟩ := HR.out
          obtain ⟨t0, t1, t2⟩ := HTT.out
          clear r0 r1 r2 r4 t0 t1
          have hbz4 : b + 1 ≤ V4.heap.size := by omega
          have htz4 : t + 1 ≤ V4.heap.size := by omega
          have HZ2 : Hid (r.f = [] → dStr r.f = ⟨#[]⟩) := fun h => by rw [h]; rfl
          have HZ3 : Hid (¬ r.f = [] → (dStr r.f).toList.isEmpty = false ∧ ¬ (dStr r.f).toList = []) := fun h => by
            have h1 : ¬ (dStr r.f).toList = [] := fun he => h (List.eq_nil_of_length_eq_zero (by have := toList_nil.1 he; rw [dStr_size] at this; exact this))
            exact ⟨by simpa using h1, h1⟩
          have WAY : (rW = true ∧ wf = true) ∨ (rW = false ∧ wf = true ∧ r.f = []) ∨ (rW = false ∧ wf = false ∧ ¬ r.f = []) := by
            have := HWF.out
            by_cases hf : r.f = []
            · rw [decide_eq_true hf] at this
              cases rW
              · exact .inr (.inl ⟨rfl, this, hf⟩)
              · exact .inl ⟨rfl, this⟩
            · rw [decide_eq_false hf] at this
              cases rW
              · exact .inr (.inr ⟨rfl, this, hf⟩)
              · exact .inl ⟨rfl, this⟩
          clear HWF
          rcases WAY with ⟨rfl, rfl⟩ | ⟨rfl, rfl, hf⟩ | ⟨rfl, rfl, hf⟩
          · cases acc <;> cases q1 : decide (e1 ≤ 0) <;> cases q2 : decide (e2 ≤ 0)
            all_goals
              go_wp2
              go_roundw
              case rel => exact ⟨k + 1, by go_num, by rw [HACC.out, q1, q2]; rfl, by omega, hbz4, htz4, HB.out, HR.out, HX.out, HTT.out, HS.out⟩
              case measure => simp [intOf]; omega
          · rw [HZ2.out hf] at t2
            clear hf
            cases acc <;> cases q1 : decide (e1 ≤ 0) <;> cases q2 : decide (e2 ≤ 0)
            all_goals
              go_wp2
              go_roundw
              case rel => exact ⟨k + 1, by go_num, by rw [HACC.out, q1, q2]; rfl, by omega, hbz4, htz4, HB.out, HR.out, HX.out, HTT.out, HS.out⟩
              case measure => simp [intOf]; omega
          · obtain ⟨n1, n2⟩ := HZ3.out hf
            clear hf
            cases acc <;> cases q1 : decide (e1 ≤ 0) <;> cases q2 : decide (e2 ≤ 0)
            all_goals
              go_wp2
              go_roundw
              case rel => exact ⟨k + 1, by go_num, by rw [HACC.out, q1, q2]; rfl, by omega, hbz4, htz4, HB.out, HR.out, HX.out, HTT.out, HS.out⟩
              case measure => simp [intOf]; omega
        · obtain rfl : k = n := by omega
          have HE : Hid ((wf && hitK r l k) = inB r rW l) := by
            show _ = _
            rw [HWF.out]
            unfold inB hitB hitK
            rw [HLN.out]
          obtain ⟨r0, r1, r2, r3, r4⟩ := hR
          obtain ⟨res, hres⟩ : ∃ res, res = inB r rW l := ⟨_, rfl⟩
          rw [HE.out, ← hres]
          have HRES := Lib.hid hres
          clear hS hres
          go_wp2
          go_ret2
          exact ⟨by rw [← HRES.out]; cases res <;> cases rN <;> rfl, HB.out⟩
end
end
section
open Go.RowKit
attribute [local go_sem ↓] Go.wp_at_zero Go.wp_at_succ

section
variable (on : Bool) (oi oj oI : ByteArray) (oV oW : Int) (oG oT : ByteArray) (oX : Int) (rO rM : ByteArray) (rN rW : Bool)
set_option maxHeartbeats 8000000 in
set_option maxRecDepth 100000 in
theorem rin_bad (r : Dc) (H1 : ModR (.agg #[.bool on, .string oi, .string oj, .string oI, .int .i64 oV, .int .i64 oW, .string oG, .string oT, .int .i64 oX]) rO rM (decR r 0))
    (l : List (ByteArray × ByteArray)) (g off n cap : Nat) (w : World) (hs : SpnA w g off l) (hg : g < w.heap.size) (hl : l.length = n) (h1n : 1 ≤ n) (h64 : n ≤ 64) (hB : l.all spanB = false)
    (hz : ∀ k, k < n → (l.getD k dp).1.size ≤ 140737488355328 ∧ (l.getD k dp).2.size ≤ 140737488355328) :
    Calls Tryd.prog 27 #[.agg #[.bool on, .string oi, .string oj, .string oI, .int .i64 oV, .int .i64 oW, .string oG, .string oT, .int .i64 oX], relV rO rM rN rW (.slice (some ⟨g, off, none⟩) n cap)] w fun e w' => e = .returned (.tuple #[.bool false, .int .i64 40]) ∧ Below w.heap.size w w' := by
  unfold ModR decR at H1
  have D1 := Lib.hid H1
  have q1 : decide ((n : Int) < 1) = false := decide_eq_false (by omega)
  have q2 : decide (64 < (n : Int)) = false := decide_eq_false (by omega)
  unfold relV
  clear H1
  go_enter Tryd.func27, Tryd.ntmps27
  go_wp2_with fail
  obtain ⟨W2, hW2⟩ : ∃ W2, W2 = (w.alloc (.cells #[.bool on, .string oi, .string oj, .string oI, .int .i64 oV, .int .i64 oW, .string oG, .string oT, .int .i64 oX] 36)).alloc (.cells #[.string rO, .string rM, .bool rN, .bool rW, .slice (some ⟨g, off, none⟩) n cap] 39) := ⟨_, rfl⟩
  obtain ⟨hb2, hz2, CR⟩ : Below w.heap.size w W2 ∧ w.heap.size + 2 ≤ W2.heap.size ∧ Cells5 W2 (w.heap.size + 1) (.string rO) (.string rM) (.bool rN) (.bool rW) (.slice (some ⟨g, off, none⟩) n cap) := by
    rw [hW2]
    have c2 := (five_box (w.alloc (.cells #[.bool on, .string oi, .string oj, .string oI, .int .i64 oV, .int .i64 oW, .string oG, .string oT, .int .i64 oX] 36)) (.string rO) (.string rM) (.bool rN) (.bool rW) (.slice (some ⟨g, off, none⟩) n cap) 39).2.1
    have hs : (w.alloc (.cells #[.bool on, .string oi, .string oj, .string oI, .int .i64 oV, .int .i64 oW, .string oG, .string oT, .int .i64 oX] 36)).heap.size = w.heap.size + 1 := by simp
    rw [hs] at c2
    exact ⟨below_two w _ _, by simp, c2⟩
  have hS2 := hs.keep hb2 hg
  rw [← hW2]
  clear hW2
  (with_reducible refine (D1.out _).mono ?_)
  rintro e W3 ⟨rfl, hb3⟩
  obtain ⟨W4, hW4⟩ : ∃ W4, W4 = W3.alloc (.cells #[.bool r.neg, .string (dStr r.i), .string (dStr r.f)] 23) := ⟨_, rfl⟩
  have CX := (one_box W3 (.bool r.neg) (.string (dStr r.i)) (.string (dStr r.f)) 23).2.1
  have h24 : Below W2.heap.size W2 W4 := by rw [hW4]; exact hb3.trans (((Below.refl _ _).alloc (Nat.le_refl _) _).mono hb3.size)
  have hz4 : W3.heap.size + 1 ≤ W4.heap.size := by rw [hW4]; simp
  have hz3 := hb3.size
  rw [← hW4] at CX
  have HX := Lib.hid CX
  have HR := Lib.hid (CR.keep h24 (by omega))
  have HS := Lib.hid (hS2.keep h24 (by have := hb2.size; omega))
  have HB := Lib.hid (hb2.trans (h24.mono hb2.size))
  have HW := Lib.hid hW4
  obtain ⟨b, hb⟩ : ∃ b, b = W3.heap.size := ⟨_, rfl⟩
  have hbl : b + 1 ≤ W4.heap.size := by omega
  have hbw : w.heap.size + 2 ≤ b := by omega
  rw [← hb] at HX
  have HBB := Lib.hid hb
  have DL := Lib.hid (fun k (hk : k < n) wx => spanis_any (l.getD k dp) wx (hz k hk).1 (hz k hk).2)
  have HBL := Lib.hid hB
  have HLN := Lib.hid hl
  clear hW4 CX hb3 h24 CR hS2 hb2 hz hs hz2 hz3 hz4 hb hB hl
  have HR3 := HR.out
  rw [HW.out] at HR3
  obtain ⟨r0, r1, r2, r3, r4⟩ := HR3
  go_wp2_with fail
  rw [← HW.out, ← HBB.out]
  clear r0 r1 r2 r3 r4
  have HNOT : Hid (¬ ∀ k, k < n → spanB (l.getD k dp) = true) := fun h => by
    have : l.all spanB = true := List.all_eq_true.2 fun x hx => by
      obtain ⟨k, hk, rfl⟩ := List.getElem_of_mem hx
      have := h k (by rw [← HLN.out]; exact hk)
      rwa [List.getD_eq_getElem?_getD, List.getElem?_eq_getElem hk] at this
    rw [HBL.out] at this
    cases this
  clear HX
  go_loopw [8] (fun i wr => ∃ k : Nat, i = .int .i64 (k : Int) ∧ k ≤ n ∧ b + 1 ≤ wr.heap.size ∧ Below w.heap.size w wr ∧ Cells5 wr (w.heap.size + 1) (.string rO) (.string rM) (.bool rN) (.bool rW) (.slice (some ⟨g, off, none⟩) n cap) ∧ SpnA wr g off l ∧ (∀ j, j < k → spanB (l.getD j dp) = true)) (fun i _ => n - (intOf i).toNat)
  case atStart => exact ⟨0, rfl, by omega, hbl, HB.out, HR.out, HS.out, fun j hj => by omega⟩
  case round =>
    obtain ⟨k, rfl, hk, hbl', hB, hR, hS, hY⟩ := hrel
    clear HB HR HS hbl HW HBB HBL
    have HB := Lib.hid hB
    have HR := Lib.hid hR
    have HS := Lib.hid hS
    have HY := Lib.hid hY
    clear hB hY
    obtain ⟨r0, r1, r2, r3, r4⟩ := hR
    by_cases hlt : k < n
    · obtain ⟨c0, c1⟩ := hS k (by rw [HLN.out]; exact hlt)
      have DK0 := fun wx => DL.out k hlt wx
      have HY1 : Hid (spanB (l.getD k dp) = true → ∀ j, j < k + 1 → spanB (l.getD j dp) = true) := fun h j hj => by
        by_cases e : j = k
        · rw [e]; exact h
        · exact HY.out j (by omega)
      cases hsp : spanB (l.getD k dp) with
      | true =>
        have HY2 := Lib.hid (HY1.out hsp)
        rw [hsp] at DK0
        have DK := Lib.hid DK0
        clear DK0 hS hsp HY1
        generalize hx : l.getD k dp = x at *
        clear hx
        obtain ⟨lo, hi⟩ := x
        simp only at c0 c1
        go_wp2_with fail
        (with_reducible refine (DK.out _).mono ?_)
        rintro e V1 ⟨rfl, hb⟩
        have HB' := Lib.hid (HB.out.trans (hb.mono HB.out.size))
        have HR' := Lib.hid (HR.out.keep hb (by omega))
        have HS' := Lib.hid (HS.out.keep hb (by omega))
        have hz' := hb.size
        clear hb r0 r1 r2 r3 r4 c0 c1
        go_wp2
        go_roundw
        case rel => exact ⟨k + 1, by go_num, by omega, by omega, HB'.out, HR'.out, HS'.out, HY2.out⟩
        case measure => simp [intOf]; omega
      | false =>
        rw [hsp] at DK0
        have DK := Lib.hid DK0
        clear DK0 hS hsp HY1
        generalize hx : l.getD k dp = x at *
        clear hx
        obtain ⟨lo, hi⟩ := x
        simp only at c0 c1
        go_wp2_with fail
        (with_reducible refine (DK.out _).mono ?_)
        rintro e V1 ⟨rfl, hb⟩
        have HB' := Lib.hid (HB.out.trans (hb.mono HB.out.size))
        clear hb r0 r1 r2 r3 r4 c0 c1
        go_wp2
        go_ret2
        exact ⟨rfl, HB'.out⟩
    · exact absurd (fun j hj => HY.out j (by omega)) HNOT.out
set_option maxHeartbeats 8000000 in
set_option maxRecDepth 100000 in
theorem rin_few (r : Dc) (H1 : ModR (.agg #[.bool on, .string oi, .string oj, .string oI, .int .i64 oV, .int .i64 oW, .string oG, .string oT, .int .i64 oX]) rO rM (decR r 0))
    (ad : Option Addr) (n cap : Nat) (w : World) (h : n = 0) :
    Calls Tryd.prog 27 #[.agg #[.bool on, .string oi, .string oj, .string oI, .int .i64 oV, .int .i64 oW, .string oG, .string oT, .int .i64 oX], relV rO rM rN rW (.slice ad n cap)] w fun e w' => e = .returned (.tuple #[.bool false, .int .i64 40]) ∧ Below w.heap.size w w' := by
  unfold ModR decR at H1
  have D1 := Lib.hid H1
  have q1 : decide ((n : Int) < 1) = true := decide_eq_true (by omega)
  unfold relV
  clear H1 h
  go_enter Tryd.func27, Tryd.ntmps27
  go_wp2_with fail
  obtain ⟨W2, hW2⟩ : ∃ W2, W2 = (w.alloc (.cells #[.bool on, .string oi, .string oj, .string oI, .int .i64 oV, .int .i64 oW, .string oG, .string oT, .int .i64 oX] 36)).alloc (.cells #[.string rO, .string rM, .bool rN, .bool rW, .slice ad n cap] 39) := ⟨_, rfl⟩
  obtain ⟨hb2, hz2, CR⟩ : Below w.heap.size w W2 ∧ w.heap.size + 2 ≤ W2.heap.size ∧ Cells5 W2 (w.heap.size + 1) (.string rO) (.string rM) (.bool rN) (.bool rW) (.slice ad n cap) := by
    rw [hW2]
    have c2 := (five_box (w.alloc (.cells #[.bool on, .string oi, .string oj, .string oI, .int .i64 oV, .int .i64 oW, .string oG, .string oT, .int .i64 oX] 36)) (.string rO) (.string rM) (.bool rN) (.bool rW) (.slice ad n cap) 39).2.1
    have hs : (w.alloc (.cells #[.bool on, .string oi, .string oj, .string oI, .int .i64 oV, .int .i64 oW, .string oG, .string oT, .int .i64 oX] 36)).heap.size = w.heap.size + 1 := by simp
    rw [hs] at c2
    exact ⟨below_two w _ _, by simp, c2⟩
  rw [← hW2]
  clear hW2
  (with_reducible refine (D1.out _).mono ?_)
  rintro e W3 ⟨rfl, hb3⟩
  obtain ⟨W4, hW4⟩ : ∃ W4, W4 = W3.alloc (.cells #[.bool r.neg, .string (dStr r.i), .string (dStr r.f)] 23) := ⟨_, rfl⟩
  have CX := (one_box W3 (.bool r.neg) (.string (dStr r.i)) (.string (dStr r.f)) 23).2.1
  have h24 : Below W2.heap.size W2 W4 := by rw [hW4]; exact hb3.trans (((Below.refl _ _).alloc (Nat.le_refl _) _).mono hb3.size)
  have hz4 : W3.heap.size + 1 ≤ W4.heap.size := by rw [hW4]; simp
  have hz3 := hb3.size
  rw [← hW4] at CX
  have HX := Lib.hid CX
  have HR := Lib.hid (CR.keep h24 (by omega))
  have HB := Lib.hid (hb2.trans (h24.mono hb2.size))
  have HW := Lib.hid hW4
  obtain ⟨b, hb⟩ : ∃ b, b = W3.heap.size := ⟨_, rfl⟩
  have hbl : b + 1 ≤ W4.heap.size := by omega
  have hbw : w.heap.size + 2 ≤ b := by omega
  rw [← hb] at HX
  have HBB := Lib.hid hb
  have HR3 := HR.out
  rw [HW.out] at HR3
  obtain ⟨r0, r1, r2, r3, r4⟩ := HR3
  have HB3 := HB.out
  rw [HW.out] at HB3
  have HB4 := Lib.hid HB3
  clear HB3
  clear hW4 CX hb3 h24 CR hb2 hz2 hz3 hz4 hb HX HR HB HW HBB hbl hbw
  go_wp2
  go_ret2
  exact ⟨rfl, HB4.out⟩
set_option maxHeartbeats 8000000 in
set_option maxRecDepth 100000 in
theorem rin_many (r : Dc) (H1 : ModR (.agg #[.bool on, .string oi, .string oj, .string oI, .int .i64 oV, .int .i64 oW, .string oG, .string oT, .int .i64 oX]) rO rM (decR r 0))
    (ad : Option Addr) (n cap : Nat) (w : World) (h : 64 < n) :
    Calls Tryd.prog 27 #[.agg #[.bool on, .string oi, .string oj, .string oI, .int .i64 oV, .int .i64 oW, .string oG, .string oT, .int .i64 oX], relV rO rM rN rW (.slice ad n cap)] w fun e w' => e = .returned (.tuple #[.bool false, .int .i64 40]) ∧ Below w.heap.size w w' := by
  unfold ModR decR at H1
  have D1 := Lib.hid H1
  have q1 : decide ((n : Int) < 1) = false := decide_eq_false (by omega)
  have q2 : decide (64 < (n : Int)) = true := decide_eq_true (by omega)
  unfold relV
  clear H1 h
  go_enter Tryd.func27, Tryd.ntmps27
  go_wp2_with fail
  obtain ⟨W2, hW2⟩ : ∃ W2, W2 = (w.alloc (.cells #[.bool on, .string oi, .string oj, .string oI, .int .i64 oV, .int .i64 oW, .string oG, .string oT, .int .i64 oX] 36)).alloc (.cells #[.string rO, .string rM, .bool rN, .bool rW, .slice ad n cap] 39) := ⟨_, rfl⟩
  obtain ⟨hb2, hz2, CR⟩ : Below w.heap.size w W2 ∧ w.heap.size + 2 ≤ W2.heap.size ∧ Cells5 W2 (w.heap.size + 1) (.string rO) (.string rM) (.bool rN) (.bool rW) (.slice ad n cap) := by
    rw [hW2]
    have c2 := (five_box (w.alloc (.cells #[.bool on, .string oi, .string oj, .string oI, .int .i64 oV, .int .i64 oW, .string oG, .string oT, .int .i64 oX] 36)) (.string rO) (.string rM) (.bool rN) (.bool rW) (.slice ad n cap) 39).2.1
    have hs : (w.alloc (.cells #[.bool on, .string oi, .string oj, .string oI, .int .i64 oV, .int .i64 oW, .string oG, .string oT, .int .i64 oX] 36)).heap.size = w.heap.size + 1 := by simp
    rw [hs] at c2
    exact ⟨below_two w _ _, by simp, c2⟩
  rw [← hW2]
  clear hW2
  (with_reducible refine (D1.out _).mono ?_)
  rintro e W3 ⟨rfl, hb3⟩
  obtain ⟨W4, hW4⟩ : ∃ W4, W4 = W3.alloc (.cells #[.bool r.neg, .string (dStr r.i), .string (dStr r.f)] 23) := ⟨_, rfl⟩
  have CX := (one_box W3 (.bool r.neg) (.string (dStr r.i)) (.string (dStr r.f)) 23).2.1
  have h24 : Below W2.heap.size W2 W4 := by rw [hW4]; exact hb3.trans (((Below.refl _ _).alloc (Nat.le_refl _) _).mono hb3.size)
  have hz4 : W3.heap.size + 1 ≤ W4.heap.size := by rw [hW4]; simp
  have hz3 := hb3.size
  rw [← hW4] at CX
  have HX := Lib.hid CX
  have HR := Lib.hid (CR.keep h24 (by omega))
  have HB := Lib.hid (hb2.trans (h24.mono hb2.size))
  have HW := Lib.hid hW4
  obtain ⟨b, hb⟩ : ∃ b, b = W3.heap.size := ⟨_, rfl⟩
  have hbl : b + 1 ≤ W4.heap.size := by omega
  have hbw : w.heap.size + 2 ≤ b := by omega
  rw [← hb] at HX
  have HBB := Lib.hid hb
  have HR3 := HR.out
  rw [HW.out] at HR3
  obtain ⟨r0, r1, r2, r3, r4⟩ := HR3
  have HB3 := HB.out
  rw [HW.out] at HB3
  have HB4 := Lib.hid HB3
  clear HB3
  clear hW4 CX hb3 h24 CR hb2 hz2 hz3 hz4 hb HX HR HB HW HBB hbl hbw
  go_wp2
  go_ret2
  exact ⟨rfl, HB4.out⟩
set_option maxHeartbeats 8000000 in
set_option maxRecDepth 100000 in
theorem rin_err (H1 : ModR (.agg #[.bool on, .string oi, .string oj, .string oI, .int .i64 oV, .int .i64 oW, .string oG, .string oT, .int .i64 oX]) rO rM (noR 40))
    (ad : Option Addr) (n cap : Nat) (w : World) :
    Calls Tryd.prog 27 #[.agg #[.bool on, .string oi, .string oj, .string oI, .int .i64 oV, .int .i64 oW, .string oG, .string oT, .int .i64 oX], relV rO rM rN rW (.slice ad n cap)] w fun e w' => e = .returned (.tuple #[.bool false, .int .i64 40]) ∧ Below w.heap.size w w' := by
  unfold ModR noR at H1
  have D1 := Lib.hid H1
  unfold relV
  clear H1
  go_enter Tryd.func27, Tryd.ntmps27
  go_wp2_with fail
  obtain ⟨W2, hW2⟩ : ∃ W2, W2 = (w.alloc (.cells #[.bool on, .string oi, .string oj, .string oI, .int .i64 oV, .int .i64 oW, .string oG, .string oT, .int .i64 oX] 36)).alloc (.cells #[.string rO, .string rM, .bool rN, .bool rW, .slice ad n cap] 39) := ⟨_, rfl⟩
  obtain ⟨hb2, hz2, CR⟩ : Below w.heap.size w W2 ∧ w.heap.size + 2 ≤ W2.heap.size ∧ Cells5 W2 (w.heap.size + 1) (.string rO) (.string rM) (.bool rN) (.bool rW) (.slice ad n cap) := by
    rw [hW2]
    have c2 := (five_box (w.alloc (.cells #[.bool on, .string oi, .string oj, .string oI, .int .i64 oV, .int .i64 oW, .string oG, .string oT, .int .i64 oX] 36)) (.string rO) (.string rM) (.bool rN) (.bool rW) (.slice ad n cap) 39).2.1
    have hs : (w.alloc (.cells #[.bool on, .string oi, .string oj, .string oI, .int .i64 oV, .int .i64 oW, .string oG, .string oT, .int .i64 oX] 36)).heap.size = w.heap.size + 1 := by simp
    rw [hs] at c2
    exact ⟨below_two w _ _, by simp, c2⟩
  rw [← hW2]
  clear hW2
  (with_reducible refine (D1.out _).mono ?_)
  rintro e W3 ⟨rfl, hb3⟩
  obtain ⟨W4, hW4⟩ : ∃ W4, W4 = W3.alloc (.cells #[.bool false, .string ⟨#[]⟩, .string ⟨#[]⟩] 23) := ⟨_, rfl⟩
  have CX := (one_box W3 (.bool false) (.string ⟨#[]⟩) (.string ⟨#[]⟩) 23).2.1
  have h24 : Below W2.heap.size W2 W4 := by rw [hW4]; exact hb3.trans (((Below.refl _ _).alloc (Nat.le_refl _) _).mono hb3.size)
  have hz4 : W3.heap.size + 1 ≤ W4.heap.size := by rw [hW4]; simp
  have hz3 := hb3.size
  rw [← hW4] at CX
  have HX := Lib.hid CX
  have HR := Lib.hid (CR.keep h24 (by omega))
  have HB := Lib.hid (hb2.trans (h24.mono hb2.size))
  have HW := Lib.hid hW4
  obtain ⟨b, hb⟩ : ∃ b, b = W3.heap.size := ⟨_, rfl⟩
  have hbl : b + 1 ≤ W4.heap.size := by omega
  have hbw : w.heap.size + 2 ≤ b := by omega
  rw [← hb] at HX
  have HBB := Lib.hid hb
  have HB3 := HB.out
  rw [HW.out] at HB3
  have HB4 := Lib.hid HB3
  clear HB3
  clear hW4 CX hb3 h24 CR hb2 hz2 hz3 hz4 hb HX HR HB HW HBB hbl hbw
  go_wp2
  go_ret2
  exact ⟨rfl, HB4.out⟩
end
end
section
open Go.RowKit

def InP (o rel : Value) (w : World) (v : Bool) (c : Int) : Prop := Calls Tryd.prog 25 #[o, rel] w fun e w' => e = .returned (.tuple #[.bool v, .int .i64 c]) ∧ Below w.heap.size w w'
def InR (o rel : Value) (w : World) (v : Bool) (c : Int) : Prop := Calls Tryd.prog 27 #[o, rel] w fun e w' => e = .returned (.tuple #[.bool v, .int .i64 c]) ∧ Below w.heap.size w w'
section
variable (on : Bool) (oi oj oI : ByteArray) (oV oW : Int) (oG oT : ByteArray) (oX : Int) (rO rM : ByteArray) (rN rW : Bool)
theorem in_both (h1 : oi.size ≤ 140737488355328) (h2 : oj.size ≤ 140737488355328) (hb : rM.size ≤ 140737488355328) (o : Value) (ho : o = .agg #[.bool on, .string oi, .string oj, .string oI, .int .i64 oV, .int .i64 oW, .string oG, .string oT, .int .i64 oX])
    (l : List (ByteArray × ByteArray)) (n : Nat) (hl : l.length = n) (h1n : 1 ≤ n) (hz : ∀ k, k < n → (l.getD k dp).1.size ≤ 140737488355328 ∧ (l.getD k dp).2.size ≤ 140737488355328) :
    ∃ (v : Bool) (c : Int), (∀ (g cap : Nat) (w : World), Spn w g l → g < w.heap.size → InP o (relV rO rM rN rW (.slice (some ⟨g, 0, none⟩) n cap)) w v c) ∧
      (∀ (g off cap : Nat) (w : World), SpnA w g off l → g < w.heap.size → InR o (relV rO rM rN rW (.slice (some ⟨g, off, none⟩) n cap)) w v c) := by
  rcases mod_both on oi oj oI oV oW oG oT oX rO rM h1 h2 hb o ho with ⟨HP, HR⟩ | ⟨r, hr, ht, HP, HR⟩
  · subst ho
    exact ⟨false, 40, fun g cap w _ _ => in_err (rN := rN) (rW := rW) (H1 := HP) (w := w) (sv := _), fun g off cap w _ _ => rin_err (rN := rN) (rW := rW) (H1 := HR) (w := w) (ad := _) (n := n) (cap := cap)⟩
  · subst ho
    cases hB : listB l with
    | true =>
      exact ⟨inB r rW l != rN, 0, fun g cap w hs hg => in_yes on oi oj oI oV oW oG oT oX rO rM rN rW r hr HP l g n cap w hs hg hl hB hz,
        fun g off cap w hs hg => rin_yes on oi oj oI oV oW oG oT oX rO rM rN rW r hr ht HR l g off n cap w hs hg hl hB hz⟩
    | false =>
      refine ⟨false, 40, fun g cap w hs hg => in_no on oi oj oI oV oW oG oT oX rO rM rN rW r HP l g n cap w hs hg hl hB hz, fun g off cap w hs hg => ?_⟩
      by_cases h64 : 64 < n
      · exact rin_many on oi oj oI oV oW oG oT oX rO rM rN rW r HR _ n cap w h64
      · unfold listB at hB
        rw [decide_eq_true (by omega), decide_eq_true (by omega), Bool.true_and, Bool.true_and] at hB
        exact rin_bad on oi oj oI oV oW oG oT oX rO rM rN rW r HR l g off n cap w hs hg hl h1n (by omega) hB hz
theorem in_both_none (h1 : oi.size ≤ 140737488355328) (h2 : oj.size ≤ 140737488355328) (hb : rM.size ≤ 140737488355328) (o : Value) (ho : o = .agg #[.bool on, .string oi, .string oj, .string oI, .int .i64 oV, .int .i64 oW, .string oG, .string oT, .int .i64 oX]) :
    (∀ (g cap : Nat) (w : World), g < w.heap.size → InP o (relV rO rM rN rW (.slice (some ⟨g, 0, none⟩) 0 cap)) w false 40) ∧
      (∀ (ad : Option Addr) (cap : Nat) (w : World), InR o (relV rO rM rN rW (.slice ad 0 cap)) w false 40) := by
  rcases mod_both on oi oj oI oV oW oG oT oX rO rM h1 h2 hb o ho with ⟨HP, HR⟩ | ⟨r, hr, ht, HP, HR⟩
  · subst ho
    exact ⟨fun g cap w _ => in_err (rN := rN) (rW := rW) (H1 := HP) (w := w) (sv := _), fun ad cap w => rin_err (rN := rN) (rW := rW) (H1 := HR) (w := w) (ad := ad) (n := 0) (cap := cap)⟩
  · subst ho
    exact ⟨fun g cap w hg => in_no on oi oj oI oV oW oG oT oX rO rM rN rW r HP [] g 0 cap w (fun k hk => absurd hk (by simp)) hg rfl rfl (fun k hk => absurd hk (by omega)),
      fun ad cap w => rin_few on oi oj oI oV oW oG oT oX rO rM rN rW r HR ad 0 cap w rfl⟩
end
end
section
open Go.RowKit
attribute [local go_sem ↓] Go.wp_at_zero Go.wp_at_succ

theorem vset_box {W : World} {b : Nat} {x0 x1 x2 : Value} (h : Cells3 W b x0 x1 x2) (y0 y1 y2 : Value) : Cells3 (((W.setCell ⟨b, 0, none⟩ y0).setCell ⟨b, 1, none⟩ y1).setCell ⟨b, 2, none⟩ y2) b y0 y1 y2 :=
  ⟨cell_set_far _ _ _ _ _ _ (by decide) (cell_set_far _ _ _ _ _ _ (by decide) (cell_set_same _ _ _ _ h.1)), cell_set_far _ _ _ _ _ _ (by decide) (cell_set_same _ _ _ _ (cell_set_far _ _ _ _ _ _ (by decide) h.2.1)), cell_set_same _ _ _ _ (cell_set_far _ _ _ _ _ _ (by decide) (cell_set_far _ _ _ _ _ _ (by decide) h.2.2))⟩
theorem vfar_box {W : World} {b c : Nat} {x0 x1 x2 : Value} (h : Cells3 W b x0 x1 x2) (hne : b ≠ c) (y0 y1 y2 : Value) : Cells3 (((W.setCell ⟨c, 0, none⟩ y0).setCell ⟨c, 1, none⟩ y1).setCell ⟨c, 2, none⟩ y2) b x0 x1 x2 :=
  ⟨(far3 _ _ _ _ _ _ _ hne).trans h.1, (far3 _ _ _ _ _ _ _ hne).trans h.2.1, (far3 _ _ _ _ _ _ _ hne).trans h.2.2⟩
theorem far9_3 {W : World} {b c : Nat} {x0 x1 x2 x3 x4 x5 x6 x7 x8 : Value} (h : Cells9 W b x0 x1 x2 x3 x4 x5 x6 x7 x8) (hne : b ≠ c) (u v z : Value) : Cells9 (((W.setCell ⟨c, 0, none⟩ u).setCell ⟨c, 1, none⟩ v).setCell ⟨c, 2, none⟩ z) b x0 x1 x2 x3 x4 x5 x6 x7 x8 := by
  have e : ∀ o, (((W.setCell ⟨c, 0, none⟩ u).setCell ⟨c, 1, none⟩ v).setCell ⟨c, 2, none⟩ z).cell? ⟨b, o, none⟩ = W.cell? ⟨b, o, none⟩ := fun o => far3 _ _ _ _ _ _ _ hne
  exact ⟨(e 0).trans h.1, (e 1).trans h.2.1, (e 2).trans h.2.2.1, (e 3).trans h.2.2.2.1, (e 4).trans h.2.2.2.2.1, (e 5).trans h.2.2.2.2.2.1, (e 6).trans h.2.2.2.2.2.2.1, (e 7).trans h.2.2.2.2.2.2.2.1, (e 8).trans h.2.2.2.2.2.2.2.2⟩
theorem far5_3 {W : World} {b c : Nat} {x0 x1 x2 x3 x4 : Value} (h : Cells5 W b x0 x1 x2 x3 x4) (hne : b ≠ c) (u v z : Value) : Cells5 (((W.setCell ⟨c, 0, none⟩ u).setCell ⟨c, 1, none⟩ v).setCell ⟨c, 2, none⟩ z) b x0 x1 x2 x3 x4 := by
  have e : ∀ o, (((W.setCell ⟨c, 0, none⟩ u).setCell ⟨c, 1, none⟩ v).setCell ⟨c, 2, none⟩ z).cell? ⟨b, o, none⟩ = W.cell? ⟨b, o, none⟩ := fun o => far3 _ _ _ _ _ _ _ hne
  exact ⟨(e 0).trans h.1, (e 1).trans h.2.1, (e 2).trans h.2.2.1, (e 3).trans h.2.2.2.1, (e 4).trans h.2.2.2.2⟩

set_option maxHeartbeats 8000000 in
set_option maxRecDepth 100000 in
theorem ov_core (on : Bool) (oi oj oI : ByteArray) (oV oW : Int) (oG oT : ByteArray) (oX : Int) (le be rO rM : ByteArray) (rN rW : Bool) (ad : Option Addr) (n cap : Nat) (xn mn v : Bool) (xi xf mi mf : ByteArray) (c d k : Int) (w : World)
    (H1 : ∀ wx : World, Calls Tryd.prog 20 #[.agg #[.bool on, .string oi, .string oj, .string oI, .int .i64 oV, .int .i64 oW, .string oG, .string oT, .int .i64 oX], .string le] wx fun e w' => e = .returned (.tuple #[.agg #[.bool xn, .string xi, .string xf], .int .i64 c]) ∧ Below wx.heap.size wx w')
    (H2 : ∀ wx : World, Calls Tryd.prog 21 #[.agg #[.bool on, .string oi, .string oj, .string oI, .int .i64 oV, .int .i64 oW, .string oG, .string oT, .int .i64 oX], .string le] wx fun e w' => e = .returned (.tuple #[.agg #[.bool xn, .string xi, .string xf], .int .i64 c]) ∧ Below wx.heap.size wx w')
    (H3 : ∀ wx : World, Calls Tryd.prog 23 #[.agg #[.bool on, .string oi, .string oj, .string oI, .int .i64 oV, .int .i64 oW, .string oG, .string oT, .int .i64 oX], .string le, .string be] wx fun e w' => e = .returned (.tuple #[.agg #[.bool mn, .string mi, .string mf], .int .i64 d]) ∧ Below wx.heap.size wx w')
    (H4 : ∀ wx : World, Calls Tryd.prog 24 #[.agg #[.bool on, .string oi, .string oj, .string oI, .int .i64 oV, .int .i64 oW, .string oG, .string oT, .int .i64 oX], .string le, .string be] wx fun e w' => e = .returned (.tuple #[.agg #[.bool mn, .string mi, .string mf], .int .i64 d]) ∧ Below wx.heap.size wx w')
    (H5 : ∀ wx : World, Below w.heap.size w wx → Calls Tryd.prog 26 #[.agg #[.string rO, .string rM, .bool rN, .bool rW, .slice ad n cap]] wx fun e w' => ∃ g' cap', e = .returned (.agg #[.string rO, .string rM, .bool rN, .bool rW, .slice (some ⟨g', 0, none⟩) n cap']) ∧ Below wx.heap.size wx w' ∧ ∀ wy : World, Below w'.heap.size w' wy → Calls Tryd.prog 25 #[.agg #[.bool on, .string oi, .string oj, .string oI, .int .i64 oV, .int .i64 oW, .string oG, .string oT, .int .i64 oX], .agg #[.string rO, .string rM, .bool rN, .bool rW, .slice (some ⟨g', 0, none⟩) n cap']] wy fun e w' => e = .returned (.tuple #[.bool v, .int .i64 k]) ∧ Below wy.heap.size wy w')
    (H6 : ∀ wx : World, Below w.heap.size w wx → Calls Tryd.prog 27 #[.agg #[.bool on, .string oi, .string oj, .string oI, .int .i64 oV, .int .i64 oW, .string oG, .string oT, .int .i64 oX], .agg #[.string rO, .string rM, .bool rN, .bool rW, .slice ad n cap]] wx fun e w' => e = .returned (.tuple #[.bool v, .int .i64 k]) ∧ Below wx.heap.size wx w') :
    Calls Tryd.prog 5 #[.agg #[.bool on, .string oi, .string oj, .string oI, .int .i64 oV, .int .i64 oW, .string oG, .string oT, .int .i64 oX], .string le, .string be, .agg #[.string rO, .string rM, .bool rN, .bool rW, .slice ad n cap]] w fun e w' => e = .returned (.bool true) ∧ Below w.heap.size w w' := by
  have D1 := Lib.hid H1
  have D2 := Lib.hid H2
  have D3 := Lib.hid H3
  have D4 := Lib.hid H4
  have D5 := Lib.hid H5
  have D6 := Lib.hid H6
  have DW := Lib.hid oawake_any
  have q1 : (xn == xn) = true := beq_self_eq_true _
  have q2 : (xi.toList == xi.toList) = true := beq_self_eq_true _
  have q3 : (xf.toList == xf.toList) = true := beq_self_eq_true _
  have q4 : (c == c) = true := beq_self_eq_true _
  have p1 : (mn == mn) = true := beq_self_eq_true _
  have p2 : (mi.toList == mi.toList) = true := beq_self_eq_true _
  have p3 : (mf.toList == mf.toList) = true := beq_self_eq_true _
  have p4 : (d == d) = true := beq_self_eq_true _
  have p5 : (v == v) = true := beq_self_eq_true _
  have p6 : (k == k) = true := beq_self_eq_true _
  clear H1 H2 H3 H4 H5 H6
  go_enter Tryd.func5, Tryd.ntmps5
  go_wp2_with fail
  obtain ⟨W0, hW0⟩ : ∃ W0, W0 = (w.alloc (.cells #[.bool on, .string oi, .string oj, .string oI, .int .i64 oV, .int .i64 oW, .string oG, .string oT, .int .i64 oX] 36)).alloc (.cells #[.string rO, .string rM, .bool rN, .bool rW, .slice ad n cap] 39) := ⟨_, rfl⟩
  obtain ⟨hb2, hz2, KO0, KR0⟩ : Below w.heap.size w W0 ∧ w.heap.size + 2 ≤ W0.heap.size ∧ Cells9 W0 w.heap.size (.bool on) (.string oi) (.string oj) (.string oI) (.int .i64 oV) (.int .i64 oW) (.string oG) (.string oT) (.int .i64 oX) ∧ Cells5 W0 (w.heap.size + 1) (.string rO) (.string rM) (.bool rN) (.bool rW) (.slice ad n cap) := by
    rw [hW0]
    have b1 : Below w.heap.size w (w.alloc (.cells #[.bool on, .string oi, .string oj, .string oI, .int .i64 oV, .int .i64 oW, .string oG, .string oT, .int .i64 oX] 36)) := (Below.refl _ w).alloc (Nat.le_refl _) _
    have n1 := (nine_box w (.bool on) (.string oi) (.string oj) (.string oI) (.int .i64 oV) (.int .i64 oW) (.string oG) (.string oT) (.int .i64 oX) 36).2.1
    have hs : (w.alloc (.cells #[.bool on, .string oi, .string oj, .string oI, .int .i64 oV, .int .i64 oW, .string oG, .string oT, .int .i64 oX] 36)).heap.size = w.heap.size + 1 := by simp
    generalize w.alloc (.cells #[.bool on, .string oi, .string oj, .string oI, .int .i64 oV, .int .i64 oW, .string oG, .string oT, .int .i64 oX] 36) = w1 at *
    have n2 := (five_box w1 (.string rO) (.string rM) (.bool rN) (.bool rW) (.slice ad n cap) 39).2.1
    have b2 : Below w1.heap.size w1 (w1.alloc (.cells #[.string rO, .string rM, .bool rN, .bool rW, .slice ad n cap] 39)) := (Below.refl _ w1).alloc (Nat.le_refl _) _
    rw [hs] at n2
    exact ⟨b1.trans (b2.mono b1.size), by simp; omega, n1.keep b2 (by omega), n2⟩
  rw [← hW0]
  have KO := Lib.hid KO0
  have KR := Lib.hid KR0
  have zO : w.heap.size + 1 ≤ W0.heap.size := by omega
  have zR : (w.heap.size + 1) + 1 ≤ W0.heap.size := by omega
  have HB := Lib.hid hb2
  clear hW0 hb2 hz2 KO0 KR0
  (with_reducible refine (D1.out _).mono ?_)
  rintro e V1 ⟨rfl, hb⟩
  have ba : Below V1.heap.size V1 (V1.alloc (.cells #[.bool xn, .string xi, .string xf] 23)) := (Below.refl _ _).alloc (Nat.le_refl _) _
  have hc : Below W0.heap.size W0 (V1.alloc (.cells #[.bool xn, .string xi, .string xf] 23)) := hb.trans (ba.mono hb.size)
  have hzz := hb.size
  have gx : w.heap.size + 2 ≤ V1.heap.size := by omega
  replace KO := Lib.hid (KO.out.keep hc (by omega))
  replace KR := Lib.hid (KR.out.keep hc (by omega))
  replace zO : w.heap.size + 1 ≤ (V1.alloc (.cells #[.bool xn, .string xi, .string xf] 23)).heap.size := by have := hc.size; omega
  replace zR : (w.heap.size + 1) + 1 ≤ (V1.alloc (.cells #[.bool xn, .string xi, .string xf] 23)).heap.size := by have := hc.size; omega
  replace HB := Lib.hid (HB.out.trans (hc.mono HB.out.size))
  have N1 := one_box V1 (.bool xn) (.string xi) (.string xf) 23
  have KX := Lib.hid N1.2.1
  have FX := Lib.hid N1.2.2
  have zx : V1.heap.size + 1 ≤ (V1.alloc (.cells #[.bool xn, .string xi, .string xf] 23)).heap.size := N1.1
  clear hb ba hc hzz N1
  obtain ⟨ko_0, ko_1, ko_2, ko_3, ko_4, ko_5, ko_6, ko_7, ko_8⟩ := KO.out
  go_wp2_with fail
  clear ko_0 ko_1 ko_2 ko_3 ko_4 ko_5 ko_6 ko_7 ko_8
  obtain ⟨W1, hW1⟩ : ∃ W1, W1 = (V1.alloc (.cells #[.bool xn, .string xi, .string xf] 23)) := ⟨_, rfl⟩
  obtain ⟨bx, hbx⟩ : ∃ bx, bx = V1.heap.size := ⟨_, rfl⟩
  rw [← hW1]
  try rw [← hbx]
  rw [← hW1] at KO KR KX FX zO zR zx HB
  rw [← hbx] at KX FX zx gx
  clear hW1 hbx
  (with_reducible refine (D2.out _).mono ?_)
  rintro e V2 ⟨rfl, hb⟩
  have ba : Below V2.heap.size V2 (V2.alloc (.cells #[.bool xn, .string xi, .string xf] 23)) := (Below.refl _ _).alloc (Nat.le_refl _) _
  have hc : Below W1.heap.size W1 (V2.alloc (.cells #[.bool xn, .string xi, .string xf] 23)) := hb.trans (ba.mono hb.size)
  have hzz := hb.size
  have gz : w.heap.size + 2 ≤ V2.heap.size := by omega
  have gxy : bx + 1 ≤ V2.heap.size := by omega
  replace KO := Lib.hid (KO.out.keep hc (by omega))
  replace KR := Lib.hid (KR.out.keep hc (by omega))
  replace KX := Lib.hid (KX.out.keep hc (by omega))
  replace FX := Lib.hid (frozen_keep FX.out hc (by omega))
  replace zO : w.heap.size + 1 ≤ (V2.alloc (.cells #[.bool xn, .string xi, .string xf] 23)).heap.size := by have := hc.size; omega
  replace zR : (w.heap.size + 1) + 1 ≤ (V2.alloc (.cells #[.bool xn, .string xi, .string xf] 23)).heap.size := by have := hc.size; omega
  replace zx : bx + 1 ≤ (V2.alloc (.cells #[.bool xn, .string xi, .string xf] 23)).heap.size := by have := hc.size; omega
  replace HB := Lib.hid (HB.out.trans (hc.mono HB.out.size))
  have N1 := one_box V2 (.bool xn) (.string xi) (.string xf) 23
  have KZ := Lib.hid N1.2.1
  have FZ := Lib.hid N1.2.2
  have zz : V2.heap.size + 1 ≤ (V2.alloc (.cells #[.bool xn, .string xi, .string xf] 23)).heap.size := N1.1
  clear hb ba hc hzz N1
  obtain ⟨kx_0, kx_1, kx_2⟩ := KX.out
  obtain ⟨kz_0, kz_1, kz_2⟩ := KZ.out
  go_wp2_with fail
  clear kx_0 kx_1 kx_2 kz_0 kz_1 kz_2
  obtain ⟨W2, hW2⟩ : ∃ W2, W2 = (V2.alloc (.cells #[.bool xn, .string xi, .string xf] 23)) := ⟨_, rfl⟩
  obtain ⟨bz, hbz⟩ : ∃ bz, bz = V2.heap.size := ⟨_, rfl⟩
  rw [← hW2]
  try rw [← hbz]
  rw [← hW2] at KO KR KX KZ FX FZ zO zR zx zz HB
  rw [← hbz] at KZ FZ zz gz gxy
  clear hW2 hbz
  (with_reducible refine (DW.out _).mono ?_)
  rintro e V3 ⟨rfl, hb⟩
  have hzz := hb.size
  replace KO := Lib.hid (KO.out.keep hb (by omega))
  replace KR := Lib.hid (KR.out.keep hb (by omega))
  replace KX := Lib.hid (KX.out.keep hb (by omega))
  replace KZ := Lib.hid (KZ.out.keep hb (by omega))
  replace FX := Lib.hid (frozen_keep FX.out hb (by omega))
  replace FZ := Lib.hid (frozen_keep FZ.out hb (by omega))
  replace zO : w.heap.size + 1 ≤ V3.heap.size := by have := hb.size; omega
  replace zR : (w.heap.size + 1) + 1 ≤ V3.heap.size := by have := hb.size; omega
  replace zx : bx + 1 ≤ V3.heap.size := by have := hb.size; omega
  replace zz : bz + 1 ≤ V3.heap.size := by have := hb.size; omega
  replace HB := Lib.hid (HB.out.trans (hb.mono HB.out.size))
  clear hb hzz
  obtain ⟨ko_0, ko_1, ko_2, ko_3, ko_4, ko_5, ko_6, ko_7, ko_8⟩ := KO.out
  go_wp2_with fail
  clear ko_0 ko_1 ko_2 ko_3 ko_4 ko_5 ko_6 ko_7 ko_8
  (with_reducible refine (D3.out _).mono ?_)
  rintro e V4 ⟨rfl, hb⟩
  have hzz := hb.size
  replace KO := Lib.hid (KO.out.keep hb (by omega))
  replace KR := Lib.hid (KR.out.keep hb (by omega))
  replace KX := Lib.hid (KX.out.keep hb (by omega))
  replace KZ := Lib.hid (KZ.out.keep hb (by omega))
  replace FX := Lib.hid (frozen_keep FX.out hb (by omega))
  replace FZ := Lib.hid (frozen_keep FZ.out hb (by omega))
  replace zO : w.heap.size + 1 ≤ V4.heap.size := by have := hb.size; omega
  replace zR : (w.heap.size + 1) + 1 ≤ V4.heap.size := by have := hb.size; omega
  replace zx : bx + 1 ≤ V4.heap.size := by have := hb.size; omega
  replace zz : bz + 1 ≤ V4.heap.size := by have := hb.size; omega
  replace HB := Lib.hid (HB.out.trans (hb.mono HB.out.size))
  clear hb hzz
  have NKO := Lib.hid (far9_3 KO.out (show w.heap.size ≠ bx by omega) (.bool mn) (.string mi) (.string mf))
  have NKR := Lib.hid (far5_3 KR.out (show (w.heap.size + 1) ≠ bx by omega) (.bool mn) (.string mi) (.string mf))
  have NKX := Lib.hid (vset_box KX.out (.bool mn) (.string mi) (.string mf))
  have NKZ := Lib.hid (vfar_box KZ.out (show bz ≠ bx by omega) (.bool mn) (.string mi) (.string mf))
  have NFX : Hid (∀ i, (((V4.setCell ⟨bx, 0, none⟩ (.bool mn)).setCell ⟨bx, 1, none⟩ (.string mi)).setCell ⟨bx, 2, none⟩ (.string mf)).frozen? ⟨bx, i, none⟩ = false) := fun i => by show _ = _; simp [FX.out]
  have NFZ : Hid (∀ i, (((V4.setCell ⟨bx, 0, none⟩ (.bool mn)).setCell ⟨bx, 1, none⟩ (.string mi)).setCell ⟨bx, 2, none⟩ (.string mf)).frozen? ⟨bz, i, none⟩ = false) := fun i => by show _ = _; simp [FZ.out]
  obtain ⟨kx_0, kx_1, kx_2⟩ := KX.out
  have fx := FX.out
  obtain ⟨nko_0, nko_1, nko_2, nko_3, nko_4, nko_5, nko_6, nko_7, nko_8⟩ := NKO.out
  go_wp2_with fail
  clear kx_0 kx_1 kx_2 fx
  clear nko_0 nko_1 nko_2 nko_3 nko_4 nko_5 nko_6 nko_7 nko_8
  replace HB : Hid (Below w.heap.size w (((V4.setCell ⟨bx, 0, none⟩ (.bool mn)).setCell ⟨bx, 1, none⟩ (.string mi)).setCell ⟨bx, 2, none⟩ (.string mf))) := res_below HB.out (by omega) _ _ _
  obtain ⟨W4, hW4⟩ : ∃ W4, W4 = (((V4.setCell ⟨bx, 0, none⟩ (.bool mn)).setCell ⟨bx, 1, none⟩ (.string mi)).setCell ⟨bx, 2, none⟩ (.string mf)) := ⟨_, rfl⟩
  rw [← hW4]
  have hzz : W4.heap.size = V4.heap.size := by rw [hW4]; simp [World.setCell]
  rw [← hW4] at HB NKO NKR NKX NKZ NFX NFZ
  replace zO : w.heap.size + 1 ≤ W4.heap.size := by omega
  replace zR : (w.heap.size + 1) + 1 ≤ W4.heap.size := by omega
  replace zx : bx + 1 ≤ W4.heap.size := by omega
  replace zz : bz + 1 ≤ W4.heap.size := by omega
  clear hW4 hzz KO KR KX KZ FX FZ
  have KO := NKO
  have KR := NKR
  have KX := NKX
  have KZ := NKZ
  have FX := NFX
  have FZ := NFZ
  clear NKO NKR NKX NKZ NFX NFZ
  (with_reducible refine (D4.out _).mono ?_)
  rintro e V5 ⟨rfl, hb⟩
  have hzz := hb.size
  replace KO := Lib.hid (KO.out.keep hb (by omega))
  replace KR := Lib.hid (KR.out.keep hb (by omega))
  replace KX := Lib.hid (KX.out.keep hb (by omega))
  replace KZ := Lib.hid (KZ.out.keep hb (by omega))
  replace FX := Lib.hid (frozen_keep FX.out hb (by omega))
  replace FZ := Lib.hid (frozen_keep FZ.out hb (by omega))
  replace zO : w.heap.size + 1 ≤ V5.heap.size := by have := hb.size; omega
  replace zR : (w.heap.size + 1) + 1 ≤ V5.heap.size := by have := hb.size; omega
  replace zx : bx + 1 ≤ V5.heap.size := by have := hb.size; omega
  replace zz : bz + 1 ≤ V5.heap.size := by have := hb.size; omega
  replace HB := Lib.hid (HB.out.trans (hb.mono HB.out.size))
  clear hb hzz
  have NKO := Lib.hid (far9_3 KO.out (show w.heap.size ≠ bz by omega) (.bool mn) (.string mi) (.string mf))
  have NKR := Lib.hid (far5_3 KR.out (show (w.heap.size + 1) ≠ bz by omega) (.bool mn) (.string mi) (.string mf))
  have NKX := Lib.hid (vfar_box KX.out (show bx ≠ bz by omega) (.bool mn) (.string mi) (.string mf))
  have NKZ := Lib.hid (vset_box KZ.out (.bool mn) (.string mi) (.string mf))
  have NFX : Hid (∀ i, (((V5.setCell ⟨bz, 0, none⟩ (.bool mn)).setCell ⟨bz, 1, none⟩ (.string mi)).setCell ⟨bz, 2, none⟩ (.string mf)).frozen? ⟨bx, i, none⟩ = false) := fun i => by show _ = _; simp [FX.out]
  have NFZ : Hid (∀ i, (((V5.setCell ⟨bz, 0, none⟩ (.bool mn)).setCell ⟨bz, 1, none⟩ (.string mi)).setCell ⟨bz, 2, none⟩ (.string mf)).frozen? ⟨bz, i, none⟩ = false) := fun i => by show _ = _; simp [FZ.out]
  obtain ⟨kz_0, kz_1, kz_2⟩ := KZ.out
  have fz := FZ.out
  obtain ⟨nkx_0, nkx_1, nkx_2⟩ := NKX.out
  obtain ⟨nkz_0, nkz_1, nkz_2⟩ := NKZ.out
  go_wp2_with fail
  clear kz_0 kz_1 kz_2 fz
  clear nkx_0 nkx_1 nkx_2
  clear nkz_0 nkz_1 nkz_2
  replace HB : Hid (Below w.heap.size w (((V5.setCell ⟨bz, 0, none⟩ (.bool mn)).setCell ⟨bz, 1, none⟩ (.string mi)).setCell ⟨bz, 2, none⟩ (.string mf))) := res_below HB.out (by omega) _ _ _
  obtain ⟨W5, hW5⟩ : ∃ W5, W5 = (((V5.setCell ⟨bz, 0, none⟩ (.bool mn)).setCell ⟨bz, 1, none⟩ (.string mi)).setCell ⟨bz, 2, none⟩ (.string mf)) := ⟨_, rfl⟩
  rw [← hW5]
  have hzz : W5.heap.size = V5.heap.size := by rw [hW5]; simp [World.setCell]
  rw [← hW5] at HB NKO NKR NKX NKZ NFX NFZ
  replace zO : w.heap.size + 1 ≤ W5.heap.size := by omega
  replace zR : (w.heap.size + 1) + 1 ≤ W5.heap.size := by omega
  replace zx : bx + 1 ≤ W5.heap.size := by omega
  replace zz : bz + 1 ≤ W5.heap.size := by omega
  clear hW5 hzz KO KR KX KZ FX FZ
  have KO := NKO
  have KR := NKR
  have KX := NKX
  have KZ := NKZ
  have FX := NFX
  have FZ := NFZ
  clear NKO NKR NKX NKZ NFX NFZ
  obtain ⟨ko_0, ko_1, ko_2, ko_3, ko_4, ko_5, ko_6, ko_7, ko_8⟩ := KO.out
  obtain ⟨kr_0, kr_1, kr_2, kr_3, kr_4⟩ := KR.out
  go_region_held3 (fun w' => w'.cell? ⟨w.heap.size, 0, none⟩ = some (.bool on) ∧ w'.cell? ⟨w.heap.size, 1, none⟩ = some (.string oi) ∧ w'.cell? ⟨w.heap.size, 2, none⟩ = some (.string oj) ∧ w'.cell? ⟨w.heap.size, 3, none⟩ = some (.string oI) ∧ w'.cell? ⟨w.heap.size, 4, none⟩ = some (.int .i64 oV) ∧ w'.cell? ⟨w.heap.size, 5, none⟩ = some (.int .i64 oW) ∧ w'.cell? ⟨w.heap.size, 6, none⟩ = some (.string oG) ∧ w'.cell? ⟨w.heap.size, 7, none⟩ = some (.string oT) ∧ w'.cell? ⟨w.heap.size, 8, none⟩ = some (.int .i64 oX) ∧ w'.cell? ⟨w.heap.size + 1, 0, none⟩ = some (.string rO) ∧ w'.cell? ⟨w.heap.size + 1, 1, none⟩ = some (.string rM) ∧ w'.cell? ⟨w.heap.size + 1, 2, none⟩ = some (.bool rN) ∧ w'.cell? ⟨w.heap.size + 1, 3, none⟩ = some (.bool rW) ∧ w'.cell? ⟨w.heap.size + 1, 4, none⟩ = some (.slice ad n cap))
    (first
      | (with_reducible exact ⟨ko_0, ko_1, ko_2, ko_3, ko_4, ko_5, ko_6, ko_7, ko_8, kr_0, kr_1, kr_2, kr_3, kr_4⟩)
      | (have t := KO.out.keep hA (by omega); have u := KR.out.keep hA (by omega); exact ⟨t.1, t.2.1, t.2.2.1, t.2.2.2.1, t.2.2.2.2.1, t.2.2.2.2.2.1, t.2.2.2.2.2.2.1, t.2.2.2.2.2.2.2.1, t.2.2.2.2.2.2.2.2, u.1, u.2.1, u.2.2.1, u.2.2.2.1, u.2.2.2.2⟩)
      | (have t := KO.out.keep hB (by omega); have u := KR.out.keep hB (by omega); exact ⟨t.1, t.2.1, t.2.2.1, t.2.2.2.1, t.2.2.2.2.1, t.2.2.2.2.2.1, t.2.2.2.2.2.2.1, t.2.2.2.2.2.2.2.1, t.2.2.2.2.2.2.2.2, u.1, u.2.1, u.2.2.1, u.2.2.2.1, u.2.2.2.2⟩)
      | go_keep)
    (first
      | (go_at_call 26; (refine (D5.out _ (by first | exact drew1 HB.out | exact HB.out)).mono ?_); rintro e wA ⟨g', cap', rfl, hbA, hIn⟩
         have hA : Below W5.heap.size W5 wA := undrew hbA)
      | (go_at_call 25; (refine (hIn _ (by first | exact Below.refl _ _ | exact drew1 (Below.refl _ _))).mono ?_); rintro e wB ⟨rfl, hbB⟩
         have hB : Below W5.heap.size W5 wB := hA.trans (hbB.mono hA.size)))
  clear ko_0 ko_1 ko_2 ko_3 ko_4 ko_5 ko_6 ko_7 ko_8 kr_0 kr_1 kr_2 kr_3 kr_4
  have hb := hB
  clear hA hB hbA hbB hIn
  replace KO := Lib.hid (KO.out.keep hb (by omega))
  replace KR := Lib.hid (KR.out.keep hb (by omega))
  replace KX := Lib.hid (KX.out.keep hb (by omega))
  replace KZ := Lib.hid (KZ.out.keep hb (by omega))
  replace FX := Lib.hid (frozen_keep FX.out hb (by omega))
  replace FZ := Lib.hid (frozen_keep FZ.out hb (by omega))
  replace zO : w.heap.size + 1 ≤ wB.heap.size := by have := hb.size; omega
  replace zR : (w.heap.size + 1) + 1 ≤ wB.heap.size := by have := hb.size; omega
  replace zx : bx + 1 ≤ wB.heap.size := by have := hb.size; omega
  replace zz : bz + 1 ≤ wB.heap.size := by have := hb.size; omega
  replace HB := Lib.hid (HB.out.trans (hb.mono HB.out.size))
  clear hb
  obtain ⟨ko_0, ko_1, ko_2, ko_3, ko_4, ko_5, ko_6, ko_7, ko_8⟩ := KO.out
  obtain ⟨kr_0, kr_1, kr_2, kr_3, kr_4⟩ := KR.out
  go_wp2_with fail
  clear ko_0 ko_1 ko_2 ko_3 ko_4 ko_5 ko_6 ko_7 ko_8 kr_0 kr_1 kr_2 kr_3 kr_4
  (with_reducible refine (D6.out _ HB.out).mono ?_)
  rintro e V9 ⟨rfl, hb⟩
  replace HB := Lib.hid (HB.out.trans (hb.mono HB.out.size))
  clear hb
  go_wp2
  go_ret
  exact ⟨rfl, HB.out⟩
end
section
open Go.ChangeShapes Go.WideShapes Go.ChangeAt Go.RowKit Go.Joins
open Go.ChangeMaps (open_string shut_string)

section
variable {H : Type} {enc : TypeId × Value → H} {w : World} {base : Nat} {spare : Nat → Bool} {held : Bool}
set_option maxRecDepth 100000 in
theorem open_dec {b0 : Nat} {v : Value} {d : DataW H} {p : List MemPlace} (hv : Value.okWide Tryd.prog w .any b0 23 v) (h : DataW.Trod enc Tryd.prog w base spare held 23 v d p) :
    ∃ (n : Bool) (i f : ByteArray), v = .agg #[.bool n, .string i, .string f] ∧ d = .agg [.lit (.bool n), .lit (.string i.data.toList), .lit (.string f.data.toList)] ∧ p = [] ∧ i.size ≤ maxLen ∧ f.size ≤ maxLen := by
  obtain ⟨x0, x1, x2, y0, y1, y2, m, rfl, rfl, rfl, t0, t1, t2⟩ := open_agg3 Tryd.underlying23 (by kernel_rfl) (by kernel_rfl) hv h
  obtain ⟨n, hn, rfl⟩ := DataW.trod_bool Tryd.underlying4 t0
  obtain ⟨i, hi, rfl, si⟩ := DataW.trod_string Tryd.underlying9 t1
  obtain ⟨f, hf, rfl, sf⟩ := DataW.trod_string Tryd.underlying9 t2
  simp only [List.cons.injEq, and_true] at hn hi hf
  subst hn hi hf
  exact ⟨n, i, f, rfl, rfl, rfl, si, sf⟩
set_option maxRecDepth 100000 in
theorem shut_dec (n : Bool) (i f : ByteArray) (hi : i.size ≤ maxLen) (hf : f.size ≤ maxLen) :
    DataW.Trod enc Tryd.prog w base spare held 23 (.agg #[.bool n, .string i, .string f]) (.agg [.lit (.bool n), .lit (.string i.data.toList), .lit (.string f.data.toList)]) [] :=
  shut_agg3 (y0 := (.lit (.bool n), [])) (y1 := (.lit (.string i.data.toList), [])) (y2 := (.lit (.string f.data.toList), [])) Tryd.underlying23 (by kernel_rfl) (by kernel_rfl) (shut_bool Tryd.underlying4 n) (shut_string Tryd.underlying9 hi) (shut_string Tryd.underlying9 hf)
end
theorem dec_sized {H : Type} {ts : List TypeId} {ds : List (DataW H)} (h : (DataW.weightsEach Tryd.prog ts ds).all (· ≤ reachBytes) = true) {j : Nat} {x : DataW H} {i f : ByteArray} (ht : ts[j]? = some 23) (hd : ds[j]? = some (.agg [x, .lit (.string i.data.toList), .lit (.string f.data.toList)])) :
    i.size ≤ 140737488355328 ∧ f.size ≤ 140737488355328 := by
  have h0 := reachBytes_lt
  have h1 := List.all_eq_true.1 h _ (DataW.weights_mem_each ht hd i.data.toList.length (by simp [DataW.weights, DataW.weightsEach, Tryd.underlying23]))
  have h2 := List.all_eq_true.1 h _ (DataW.weights_mem_each ht hd f.data.toList.length (by simp [DataW.weights, DataW.weightsEach, Tryd.underlying23]))
  have e1 : i.data.toList.length = i.size := by simp
  have e2 : f.data.toList.length = f.size := by simp
  have h1' := of_decide_eq_true h1
  have h2' := of_decide_eq_true h2
  omega
theorem str_sized {H : Type} {ts : List TypeId} {ds : List (DataW H)} (h : (DataW.weightsEach Tryd.prog ts ds).all (· ≤ reachBytes) = true) {j : Nat} {t : TypeId} {s : ByteArray} (ht : ts[j]? = some t) (hd : ds[j]? = some (.lit (.string s.data.toList))) : s.size ≤ 140737488355328 := by
  have h0 := reachBytes_lt
  have h1 := sized_string h ht hd
  have e1 : s.data.toList.length = s.size := by simp
  omega
theorem own : ownKnob Tryd.prog.godebug = none := by kernel_rfl
end
section
open Go.ChangeShapes Go.WideShapes Go.ChangeAt Go.RowKit Go.Joins

theorem array9 {α : Type} {cs : Array α} (h : cs.size = 9) : ∃ c0 c1 c2 c3 c4 c5 c6 c7 c8, cs = #[c0, c1, c2, c3, c4, c5, c6, c7, c8] := by
  obtain ⟨l⟩ := cs
  match l, h with
  | [c0, c1, c2, c3, c4, c5, c6, c7, c8], _ => exact ⟨c0, c1, c2, c3, c4, c5, c6, c7, c8, rfl⟩
theorem ops_cells : Tryd.prog.cellsOf 36 = 9 := by kernel_rfl
theorem dec_cells : Tryd.prog.cellsOf 23 = 3 := by kernel_rfl
theorem int_cells : Tryd.prog.cellsOf 3 = 1 := by kernel_rfl
theorem str_cells : Tryd.prog.cellsOf 9 = 1 := by kernel_rfl
theorem bool_cells : Tryd.prog.cellsOf 4 = 1 := by kernel_rfl

section
variable {H : Type} {enc : TypeId × Value → H} {w : World} {base : Nat} {spare : Nat → Bool} {held : Bool}
theorem open_dec_cells {n : Nat} {c0 c1 c2 : Value} {y : DataW H × List MemPlace} (h : DataW.trod enc Tryd.prog w base spare held n 23 [c0, c1, c2] = some y) :
    ∃ (a : Bool) (i f : ByteArray), c0 = .bool a ∧ c1 = .string i ∧ c2 = .string f ∧ y = (.agg [.lit (.bool a), .lit (.string i.data.toList), .lit (.string f.data.toList)], []) ∧ i.size ≤ maxLen ∧ f.size ≤ maxLen := by
  obtain ⟨xs, m, _, hx, hl, hlen, hi⟩ := DataW.trod_struct Tryd.underlying23 h
  match xs, hlen with
  | [y0, y1, y2], _ =>
    have i0 := hi 0 _ rfl
    have i1 := hi 1 _ rfl
    have i2 := hi 2 _ rfl
    simp [bool_cells] at i0
    simp [str_cells] at i1 i2
    obtain ⟨a, ha, rfl⟩ := DataW.trod_bool Tryd.underlying4 i0
    obtain ⟨i, hi1, rfl, si⟩ := DataW.trod_string Tryd.underlying9 i1
    obtain ⟨f, hf1, rfl, sf⟩ := DataW.trod_string Tryd.underlying9 i2
    simp only [List.cons.injEq, and_true] at ha hi1 hf1
    exact ⟨a, i, f, ha, hi1, hf1, by simpa using hx, si, sf⟩
set_option maxRecDepth 100000 in
theorem open_ops {b0 : Nat} {v : Value} {d : DataW H} {p : List MemPlace} (hv : Value.okWide Tryd.prog w .any b0 36 v) (h : DataW.Trod enc Tryd.prog w base spare held 36 v d p) :
    ∃ (n : Bool) (i f I : ByteArray) (V W : Int) (F T : ByteArray) (E : Int), v = .agg #[.bool n, .string i, .string f, .string I, .int .i64 V, .int .i64 W, .string F, .string T, .int .i64 E] ∧
      d = .agg [.agg [.lit (.bool n), .lit (.string i.data.toList), .lit (.string f.data.toList)], .lit (.string I.data.toList), .lit (.int .i64 V), .lit (.int .i64 W), .lit (.string F.data.toList), .lit (.string T.data.toList), .lit (.int .i64 E)] ∧ p = [] ∧
      i.size ≤ maxLen ∧ f.size ≤ maxLen ∧ I.size ≤ maxLen ∧ (Lit.int .i64 V).wf = true ∧ (Lit.int .i64 W).wf = true ∧ F.size ≤ maxLen ∧ T.size ≤ maxLen ∧ (Lit.int .i64 E).wf = true := by
  obtain ⟨cs, rfl, hsz⟩ := okWide_struct Tryd.underlying36 hv
  obtain ⟨c0, c1, c2, c3, c4, c5, c6, c7, c8, rfl⟩ := array9 (hsz.trans ops_cells)
  obtain ⟨fuel, hf⟩ := h
  obtain ⟨xs, m, _, hx, hl, hlen, hi⟩ := DataW.trod_struct Tryd.underlying36 hf
  match xs, hlen with
  | [y0, y1, y2, y3, y4, y5, y6], _ =>
    have i0 := hi 0 _ rfl
    have i1 := hi 1 _ rfl
    have i2 := hi 2 _ rfl
    have i3 := hi 3 _ rfl
    have i4 := hi 4 _ rfl
    have i5 := hi 5 _ rfl
    have i6 := hi 6 _ rfl
    simp [dec_cells, Value.cells] at i0
    simp [str_cells, Value.cells] at i1 i4 i5
    simp [int_cells, Value.cells] at i2 i3 i6
    obtain ⟨n, i, f, rfl, rfl, rfl, rfl, si, sf⟩ := open_dec_cells i0
    obtain ⟨I, h1, rfl, s1⟩ := DataW.trod_string Tryd.underlying9 i1
    obtain ⟨V, h2, rfl, s2⟩ := DataW.trod_int Tryd.underlying3 i2
    obtain ⟨W, h3, rfl, s3⟩ := DataW.trod_int Tryd.underlying3 i3
    obtain ⟨F, h4, rfl, s4⟩ := DataW.trod_string Tryd.underlying9 i4
    obtain ⟨T, h5, rfl, s5⟩ := DataW.trod_string Tryd.underlying9 i5
    obtain ⟨E, h6, rfl, s6⟩ := DataW.trod_int Tryd.underlying3 i6
    simp only [List.cons.injEq, and_true] at h1 h2 h3 h4 h5 h6
    subst h1 h2 h3 h4 h5 h6
    simp at hx
    exact ⟨n, i, f, I, V, W, F, T, E, rfl, hx.1, hx.2, si, sf, s1, s2, s3, s4, s5, s6⟩
set_option maxRecDepth 100000 in
theorem shut_ops (n : Bool) (i f I : ByteArray) (V W : Int) (F T : ByteArray) (E : Int) (si : i.size ≤ maxLen) (sf : f.size ≤ maxLen) (s1 : I.size ≤ maxLen) (s2 : (Lit.int .i64 V).wf = true) (s3 : (Lit.int .i64 W).wf = true) (s4 : F.size ≤ maxLen) (s5 : T.size ≤ maxLen) (s6 : (Lit.int .i64 E).wf = true) :
    DataW.Trod enc Tryd.prog w base spare held 36 (.agg #[.bool n, .string i, .string f, .string I, .int .i64 V, .int .i64 W, .string F, .string T, .int .i64 E]) (.agg [.agg [.lit (.bool n), .lit (.string i.data.toList), .lit (.string f.data.toList)], .lit (.string I.data.toList), .lit (.int .i64 V), .lit (.int .i64 W), .lit (.string F.data.toList), .lit (.string T.data.toList), .lit (.int .i64 E)]) [] := by
  refine ⟨3, ?_⟩
  simp [DataW.trod, Value.cells, Tryd.underlying36, Tryd.underlying23, Tryd.underlying4, Tryd.underlying9, Tryd.underlying3, ops_cells, dec_cells, int_cells, str_cells, bool_cells, si, sf, s1, s2, s3, s4, s5, s6, List.mapM_cons, List.mapM_nil]
end
theorem ops_sized {H : Type} {ts : List TypeId} {ds : List (DataW H)} (h : (DataW.weightsEach Tryd.prog ts ds).all (· ≤ reachBytes) = true) {j : Nat} {x a b c e g k : DataW H} {i f : ByteArray} (ht : ts[j]? = some 36) (hd : ds[j]? = some (.agg [.agg [x, .lit (.string i.data.toList), .lit (.string f.data.toList)], a, b, c, e, g, k])) :
    i.size ≤ 140737488355328 ∧ f.size ≤ 140737488355328 := by
  have h0 := reachBytes_lt
  have h1 := List.all_eq_true.1 h _ (DataW.weights_mem_each ht hd i.data.toList.length (by simp [DataW.weights, DataW.weightsEach, Tryd.underlying36, Tryd.underlying23]))
  have h2 := List.all_eq_true.1 h _ (DataW.weights_mem_each ht hd f.data.toList.length (by simp [DataW.weights, DataW.weightsEach, Tryd.underlying36, Tryd.underlying23]))
  have e1 : i.data.toList.length = i.size := by simp
  have e2 : f.data.toList.length = f.size := by simp
  have h1' := of_decide_eq_true h1
  have h2' := of_decide_eq_true h2
  omega
end
section
open Go.ChangeShapes Go.WideShapes Go.ChangeAt Go.RowKit Go.Joins

theorem array5 {α : Type} {cs : Array α} (h : cs.size = 5) : ∃ c0 c1 c2 c3 c4, cs = #[c0, c1, c2, c3, c4] := by
  obtain ⟨l⟩ := cs
  match l, h with
  | [c0, c1, c2, c3, c4], _ => exact ⟨c0, c1, c2, c3, c4, rfl⟩
theorem rel_cells : Tryd.prog.cellsOf 39 = 5 := by kernel_rfl
theorem span_cells : Tryd.prog.cellsOf 93 = 2 := by kernel_rfl
theorem spans_cells : Tryd.prog.cellsOf 37 = 1 := by kernel_rfl
theorem span_bytes : Tryd.prog.bytesOf 93 = 32 := by kernel_rfl
theorem weightsAll_in {H : Type} {P : Program} {e : TypeId} : ∀ {l : List (DataW H)} {d : DataW H}, d ∈ l → ∀ n ∈ d.weights P e, n ∈ DataW.weightsAll P e l
  | x :: l, d, h, n, hn => by
    rw [DataW.weightsAll]
    rcases List.mem_cons.1 h with rfl | h
    · exact List.mem_append_left _ hn
    · exact List.mem_append_right _ (weightsAll_in h n hn)

/-- A list of spans, as an argument has it. -/
def SpnArg (W : World) (ad : Option Addr) (n : Nat) (l : List (ByteArray × ByteArray)) : Prop :=
  n = 0 ∨ (1 ≤ n ∧ n * 32 ≤ 140737488355328 ∧ l.length = n ∧ ∃ g off, ad = some ⟨g, off, none⟩ ∧ g < W.heap.size ∧ SpnA W g off l ∧ ∀ k, k < n → (l.getD k dp).1.size ≤ 140737488355328 ∧ (l.getD k dp).2.size ≤ 140737488355328)
section
variable {H : Type} {enc : TypeId × Value → H} {w : World} {spare : Nat → Bool} {held : Bool}
set_option maxRecDepth 100000 in
theorem span_read {n : Nat} {cs : List Value} {y : DataW H × List MemPlace} (h : DataW.trod enc Tryd.prog w 0 spare held n 93 cs = some y) :
    ∃ a b : ByteArray, cs = [.string a, .string b] ∧ y = (.agg [.lit (.string a.data.toList), .lit (.string b.data.toList)], []) := by
  obtain ⟨y0, y1, m, hx, hl, h0, h1⟩ := trod_struct2 Tryd.underlying93 h
  rw [span_cells] at hl
  match cs, hl with
  | [c0, c1], _ =>
    simp [str_cells] at h0 h1
    obtain ⟨a, ha, rfl, _⟩ := DataW.trod_string Tryd.underlying9 h0
    obtain ⟨b, hb, rfl, _⟩ := DataW.trod_string Tryd.underlying9 h1
    simp only [List.cons.injEq, and_true] at ha hb
    rw [ha, hb]
    exact ⟨a, b, rfl, by simpa using hx⟩
theorem spans_read {fuel : Nat} {c : Value} {d : DataW H} {q : List MemPlace} (h : DataW.trod enc Tryd.prog w 0 spare held fuel 37 [c] = some (d, q)) (hlt : ∀ x ∈ q, x.block < w.heap.size)
    (hw : ∀ n ∈ d.weights Tryd.prog 37, n ≤ reachBytes) :
    ∃ ad n cap l, c = .slice ad n cap ∧ SpnArg w ad n l := by
  rcases DataW.trod_slice Tryd.underlying37 h with ⟨hc, _⟩ | ⟨a, len, cap, elems, rest, m, _, hc, hx, hb, hl, hm, hlen, hel, hsp, hns⟩
  · simp only [List.cons.injEq, and_true] at hc
    exact ⟨none, 0, 0, [], hc, .inl rfl⟩
  · simp only [List.cons.injEq, and_true] at hc
    simp only [Prod.mk.injEq] at hx
    obtain ⟨hd, hq⟩ := hx
    by_cases h0 : len = 0
    · exact ⟨some a, len, cap, [], hc, .inl h0⟩
    have hr := reachBytes_lt
    have each : ∀ i, i < len → ∃ a0 b0 : ByteArray, w.cell? ((a.add (i * 2)).add 0) = some (.string a0) ∧ w.cell? ((a.add (i * 2)).add 1) = some (.string b0) ∧ elems[i]? = some (.agg [.lit (.string a0.data.toList), .lit (.string b0.data.toList)], []) := by
      intro i hi
      have h1 := hel i hi
      rw [span_cells] at h1
      have hi2 : i < elems.length := by omega
      rw [List.getElem?_eq_getElem hi2, Option.bind_eq_some_iff] at h1
      obtain ⟨cs, hcs, hy⟩ := h1
      obtain ⟨a0, b0, rfl, hy2⟩ := span_read hy
      obtain ⟨_, g2, g3⟩ := World.cells?_some hcs
      have c0 := g3 0 (by omega)
      have c1 := g3 1 (by omega)
      exact ⟨a0, b0, by simpa using c0, by simpa using c1, by rw [List.getElem?_eq_getElem hi2, hy2]⟩
    obtain ⟨g, off, spot⟩ := a
    have hspot : spot = none := by
      obtain ⟨a0, b0, e0, _, _⟩ := each 0 (by omega)
      simpa [Addr.add] using World.cell?_spot e0
    subst hspot
    have hadd : ∀ j, (⟨g, off, none⟩ : Addr).add j = ⟨g, off + j, none⟩ := fun j => by unfold Addr.add; split <;> simp_all
    have hadd2 : ∀ i j, (⟨g, i, none⟩ : Addr).add j = ⟨g, i + j, none⟩ := fun i j => by unfold Addr.add; split <;> simp_all
    have hg : g < w.heap.size := by
      refine hlt (.cell g off) ?_
      rw [hq]
      refine List.mem_append_left _ (MemPlace.mem_row.2 ⟨0, ?_, by simp⟩)
      rw [span_cells]
      omega
    have sz : ∀ s : ByteArray, s.data.toList.length ≤ reachBytes → s.size ≤ 140737488355328 := fun s h => by
      have e : s.data.toList.length = s.size := by simp
      omega
    obtain ⟨f, hf⟩ : ∃ f : Nat → ByteArray × ByteArray, ∀ i, i < len → w.cell? ⟨g, off + i * 2, none⟩ = some (.string (f i).1) ∧ w.cell? ⟨g, off + i * 2 + 1, none⟩ = some (.string (f i).2) ∧ (f i).1.size ≤ 140737488355328 ∧ (f i).2.size ≤ 140737488355328 := by
      refine Classical.axiomOfChoice (r := fun i (p : ByteArray × ByteArray) => i < len → w.cell? ⟨g, off + i * 2, none⟩ = some (.string p.1) ∧ w.cell? ⟨g, off + i * 2 + 1, none⟩ = some (.string p.2) ∧ p.1.size ≤ 140737488355328 ∧ p.2.size ≤ 140737488355328) fun i => ?_
      by_cases hi : i < len
      · obtain ⟨a0, b0, e0, e1, e2⟩ := each i hi
        rw [hadd] at e0 e1
        rw [hadd2] at e0 e1
        rw [Nat.add_zero] at e0
        have hm : (DataW.agg [.lit (.string a0.data.toList), .lit (.string b0.data.toList)] : DataW H) ∈ elems.map (·.1) := List.mem_map.2 ⟨_, List.mem_of_getElem? e2, rfl⟩
        have w1 : a0.data.toList.length ≤ reachBytes := hw _ (by
          rw [hd]
          simp only [DataW.weights, Tryd.underlying37, List.mem_cons, List.mem_append]
          exact .inr (.inl (weightsAll_in hm _ (by simp [DataW.weights, DataW.weightsEach, Tryd.underlying93]))))
        have w2 : b0.data.toList.length ≤ reachBytes := hw _ (by
          rw [hd]
          simp only [DataW.weights, Tryd.underlying37, List.mem_cons, List.mem_append]
          exact .inr (.inl (weightsAll_in hm _ (by simp [DataW.weights, DataW.weightsEach, Tryd.underlying93]))))
        exact ⟨(a0, b0), fun _ => ⟨e0, e1, sz _ w1, sz _ w2⟩⟩
      · exact ⟨dp, fun h => absurd h hi⟩
    have hn : len * 32 ≤ 140737488355328 := by
      have := hw ((elems.length + rest.length) * 32) (by
        rw [hd]
        simp only [DataW.weights, Tryd.underlying37, List.length_map, span_bytes]
        exact List.mem_cons_self)
      have : elems.length * 32 ≤ (elems.length + rest.length) * 32 := Nat.mul_le_mul_right _ (by omega)
      omega
    have hget : ∀ k, k < len → ((List.range len).map f).getD k dp = f k := fun k hk => by
      rw [List.getD_eq_getElem?_getD, List.getElem?_map, List.getElem?_range hk]
      rfl
    refine ⟨some ⟨g, off, none⟩, len, cap, (List.range len).map f, hc, .inr ⟨by omega, hn, by simp, g, off, rfl, hg, fun k hk => ?_, fun k hk => ?_⟩⟩
    · have hk2 : k < len := by simpa using hk
      rw [hget k hk2]
      exact ⟨(hf k hk2).1, (hf k hk2).2.1⟩
    · rw [hget k hk]
      exact ⟨(hf k hk).2.2.1, (hf k hk).2.2.2⟩
set_option maxRecDepth 100000 in
/-- A relation as an argument. -/
theorem rel_read {b0 : Nat} {v : Value} {d : DataW H} {q : List MemPlace} (hv : Value.okWide Tryd.prog w .any b0 39 v) (h : DataW.Trod enc Tryd.prog w 0 spare held 39 v d q) (hlt : ∀ x ∈ q, x.block < w.heap.size)
    (hw : ∀ n ∈ d.weights Tryd.prog 39, n ≤ reachBytes) :
    ∃ (rO rM : ByteArray) (rN rW : Bool) (ad : Option Addr) (n cap : Nat) (l : List (ByteArray × ByteArray)), v = .agg #[.string rO, .string rM, .bool rN, .bool rW, .slice ad n cap] ∧ rM.size ≤ 140737488355328 ∧ SpnArg w ad n l := by
  obtain ⟨cs, rfl, hsz⟩ := okWide_struct Tryd.underlying39 hv
  obtain ⟨c0, c1, c2, c3, c4, rfl⟩ := array5 (hsz.trans rel_cells)
  obtain ⟨fuel, hf⟩ := h
  obtain ⟨xs, m, _, hx, hl, hlen, hi⟩ := DataW.trod_struct Tryd.underlying39 hf
  match xs, hlen with
  | [y0, y1, y2, y3, y4], _ =>
    have i0 := hi 0 _ rfl
    have i1 := hi 1 _ rfl
    have i2 := hi 2 _ rfl
    have i3 := hi 3 _ rfl
    have i4 := hi 4 _ rfl
    simp [str_cells, Value.cells] at i0 i1
    simp [bool_cells, Value.cells] at i2 i3
    simp [spans_cells, Value.cells] at i4
    obtain ⟨rO, h0, rfl, s0⟩ := DataW.trod_string Tryd.underlying9 i0
    obtain ⟨rM, h1, rfl, s1⟩ := DataW.trod_string Tryd.underlying9 i1
    obtain ⟨rN, h2, rfl⟩ := DataW.trod_bool Tryd.underlying4 i2
    obtain ⟨rW, h3, rfl⟩ := DataW.trod_bool Tryd.underlying4 i3
    simp only [List.cons.injEq, and_true] at h0 h1 h2 h3
    subst h0 h1 h2 h3
    obtain ⟨y4d, y4p⟩ := y4
    simp at hx
    obtain ⟨rfl, rfl⟩ := hx
    obtain ⟨ad, n, cap, l, rfl, hA⟩ := spans_read i4 hlt (fun k hk => hw k (by
      simp only [DataW.weights, Tryd.underlying39]
      simp [DataW.weights, DataW.weightsEach, hk]))
    have hr := reachBytes_lt
    have hM := hw rM.data.toList.length (by simp [DataW.weights, DataW.weightsEach, Tryd.underlying39])
    have e : rM.data.toList.length = rM.size := by simp
    exact ⟨rO, rM, rN, rW, ad, n, cap, l, rfl, by omega, hA⟩
end
end
section
open Go.RowKit

theorem values_walk (on : Bool) (oi oj oI : ByteArray) (oV oW : Int) (oG oT : ByteArray) (oX : Int) (le be rO rM : ByteArray) (rN rW : Bool) (ad : Option Addr) (n cap : Nat) (l : List (ByteArray × ByteArray)) (w : World)
    (h1 : oi.size ≤ 140737488355328) (h2 : oj.size ≤ 140737488355328) (hbe : be.size ≤ 140737488355328) (hM : rM.size ≤ 140737488355328) (hA : SpnArg w ad n l) :
    Calls Tryd.prog 5 #[.agg #[.bool on, .string oi, .string oj, .string oI, .int .i64 oV, .int .i64 oW, .string oG, .string oT, .int .i64 oX], .string le, .string be, .agg #[.string rO, .string rM, .bool rN, .bool rW, .slice ad n cap]] w fun e w' => e = .returned (.bool true) ∧ Below w.heap.size w w' := by
  obtain ⟨o, ho⟩ : ∃ o : Value, o = .agg #[.bool on, .string oi, .string oj, .string oI, .int .i64 oV, .int .i64 oW, .string oG, .string oT, .int .i64 oX] := ⟨_, rfl⟩
  obtain ⟨xn, xi, xf, c, G1, G2⟩ : ∃ (xn : Bool) (xi xf : ByteArray) (c : Int), GetP o le (.tuple #[.agg #[.bool xn, .string xi, .string xf], .int .i64 c]) ∧ GetR o le (.tuple #[.agg #[.bool xn, .string xi, .string xf], .int .i64 c]) := by
    rcases get_both on oi oj oI oV oW oG oT oX le h1 h2 o ho with ⟨a, b⟩ | ⟨x, _, _, a, b⟩
    · exact ⟨_, _, _, _, a, b⟩
    · exact ⟨_, _, _, _, a, b⟩
  obtain ⟨mn, mi, mf, d, M1, M2⟩ : ∃ (mn : Bool) (mi mf : ByteArray) (d : Int), ModP o le be (.tuple #[.agg #[.bool mn, .string mi, .string mf], .int .i64 d]) ∧ ModR o le be (.tuple #[.agg #[.bool mn, .string mi, .string mf], .int .i64 d]) := by
    rcases mod_both on oi oj oI oV oW oG oT oX le be h1 h2 hbe o ho with ⟨a, b⟩ | ⟨x, _, _, a, b⟩
    · exact ⟨_, _, _, _, a, b⟩
    · exact ⟨_, _, _, _, a, b⟩
  rcases hA with h0 | ⟨n1, hn, hl, g, off, rfl, hg, hS, hz⟩
  · subst h0
    obtain ⟨I1, I2⟩ := in_both_none on oi oj oI oV oW oG oT oX rO rM rN rW h1 h2 hM o ho
    subst ho
    exact ov_core on oi oj oI oV oW oG oT oX le be rO rM rN rW ad 0 cap xn mn false xi xf mi mf c d 40 w G1 G2 M1 M2
      (fun wx hb => (copied_none rO rM rN rW ad cap wx).mono fun e w' ⟨g', cap', he, hb', hlt⟩ => ⟨g', cap', he, hb', fun wy hy => I1 g' cap' wy (by have := hy.size; omega)⟩)
      (fun wx hb => I2 ad cap wx)
  · obtain ⟨v, k, I1, I2⟩ := in_both on oi oj oI oV oW oG oT oX rO rM rN rW h1 h2 hM o ho l n hl n1 hz
    subst ho
    exact ov_core on oi oj oI oV oW oG oT oX le be rO rM rN rW (some ⟨g, off, none⟩) n cap xn mn v xi xf mi mf c d k w G1 G2 M1 M2
      (fun wx hb => (copied_any rO rM rN rW g off n cap l wx (hS.keep hb hg) (by have := hb.size; omega) hl n1 hn).mono fun e w' ⟨g', cap', he, hb', hlt, hsp⟩ => ⟨g', cap', he, hb', fun wy hy => I1 g' cap' wy (hsp.keep hy hlt) (by have := hy.size; omega)⟩)
      (fun wx hb => I2 g off cap wx (hS.keep hb hg) (by have := hb.size; omega))
end
end Go.Proofs.YtpbljcjghjbjdaaDoor
