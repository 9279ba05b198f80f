/- ChooseRanges: the law's walk. -/
import Derived.Test.YtebbmelmifffgaaDoorRnB
import Derived.Test.YtebbmelmifffgaaDoorApp
namespace Go.Proofs.YtebbmelmifffgaaDoor
open Go.RowKit

theorem rng_info : (Tryd.prog.info? 88).map (fun i => (i.zero, i.size, i.bytes)) = some (some (.agg #[.int .i64 0, .int .i64 0, .int .i64 0]), 3, 24) := by kernel_rfl
def flatR (l : List Rw3) : List Value := (List.range (l.length * 3)).map fun j => if j % 3 = 0 then .int .i64 (l.getD (j / 3) Rw3.nil).f else if j % 3 = 1 then .int .i64 (l.getD (j / 3) Rw3.nil).t else .int .i64 (l.getD (j / 3) Rw3.nil).c
theorem flatR_at (l : List Rw3) (j : Nat) (h : j < l.length * 3) : (flatR l)[j]? = some (if j % 3 = 0 then .int .i64 (l.getD (j / 3) Rw3.nil).f else if j % 3 = 1 then .int .i64 (l.getD (j / 3) Rw3.nil).t else .int .i64 (l.getD (j / 3) Rw3.nil).c) := by
  unfold flatR
  rw [List.getElem?_map, List.getElem?_range h]
  rfl
theorem rows_flat {W : World} {g off n : Nat} {l : List Rw3} (hl : l.length = n) (h : ∀ k, k < n → W.cell? ⟨g, off + k * 3, none⟩ = some (.int .i64 (l.getD k Rw3.nil).f) ∧ W.cell? ⟨g, off + k * 3 + 1, none⟩ = some (.int .i64 (l.getD k Rw3.nil).t) ∧ W.cell? ⟨g, off + k * 3 + 2, none⟩ = some (.int .i64 (l.getD k Rw3.nil).c)) :
    ∀ j, j < n * 3 → W.cell? ⟨g, off + j, none⟩ = (flatR l)[j]? := by
  intro j hj
  rw [flatR_at l j (by rw [hl]; exact hj)]
  obtain ⟨h0, h1, h2⟩ := h (j / 3) (by omega)
  by_cases e0 : j % 3 = 0
  · rw [if_pos e0]
    rwa [show off + j / 3 * 3 = off + j by omega] at h0
  · rw [if_neg e0]
    by_cases e1 : j % 3 = 1
    · rw [if_pos e1]
      rwa [show off + j / 3 * 3 + 1 = off + j by omega] at h1
    · rw [if_neg e1]
      rwa [show off + j / 3 * 3 + 2 = off + j by omega] at h2
theorem flat_rows {W : World} {g n : Nat} {l : List Rw3} (hl : l.length = n) (hm : n * 24 ≤ 140737488355328) (hg : g < W.heap.size) (h : ∀ j, j < n * 3 → W.cell? ⟨g, j, none⟩ = (flatR l)[j]?) : RowsG W (some ⟨g, 0, none⟩) n l := by
  refine ⟨hl, hm, fun _ => ⟨g, 0, rfl, hg, fun k hk => ⟨?_, ?_, ?_⟩⟩⟩
  · rw [Nat.zero_add, h _ (by omega), flatR_at l _ (by rw [hl]; omega), if_pos (by omega), show k * 3 / 3 = k by omega]
  · rw [Nat.zero_add, h _ (by omega), flatR_at l _ (by rw [hl]; omega), if_neg (by omega), if_pos (by omega), show (k * 3 + 1) / 3 = k by omega]
  · rw [Nat.zero_add, h _ (by omega), flatR_at l _ (by rw [hl]; omega), if_neg (by omega), if_neg (by omega), show (k * 3 + 2) / 3 = k by omega]

set_option maxHeartbeats 4000000 in
set_option maxRecDepth 100000 in
theorem ranges_walk (ad : Option Addr) (n cap : Nat) (l : List Rw3) (a b : Int) (w : World) (hR : RowsG w ad n l) (hT : TabC w) :
    Calls Tryd.prog 7 #[.slice ad n cap, .int .i64 a, .int .i64 b] w fun e w' => e = .returned (.bool true) ∧ Below w.heap.size w w' := by
  have HR := Lib.hid hR
  have HT := Lib.hid hT
  have hmost := hR.most
  have HL := Lib.hid hR.len
  have DA := Lib.hid (fun wx (hx : TabC wx) => cawake_any wx hx)
  have DP := Lib.hid (fun ad' cap' wx (h : RowsG wx ad' n l) => range_any ad' n cap' l a b wx h)
  have DR := Lib.hid (fun wx (h : RowsG wx ad n l) => rrange_any ad n cap l a b wx h)
  obtain ⟨y, hy⟩ : ∃ y, y = rgV n l a b := ⟨_, rfl⟩
  rw [← hy] at DP DR
  clear hy hR hT
  obtain ⟨y1, y2⟩ := y
  have q1 : (y1 == y1) = true := beq_self_eq_true _
  have q2 : (y2 == y2) = true := beq_self_eq_true _
  have hb0 : Below w.heap.size w (w.alloc (.cells #[] 88)) := (Below.refl _ w).alloc (Nat.le_refl _) _
  have HB0 := Lib.hid hb0
  have Z0 : Hid ((w.alloc (.cells #[] 88)).heap.size = w.heap.size + 1) := Lib.hid (by simp)
  have HR0 := Lib.hid (HR.out.keep hb0)
  clear hb0
  by_cases h0 : n = 0
  · subst h0
    have DP0 := Lib.hid (fun wx => DP.out (some ⟨w.heap.size, 0, none⟩) 0 wx ⟨HL.out, by decide, fun h => absurd rfl h⟩)
    go_enter Tryd.func7, Tryd.ntmps7
    go_wp2_with (at_builtin; refine wpList_append_empty rng_info Tryd.underlying48 _ rfl _ _ rfl _ rfl ad cap rfl ?_)
    (with_reducible refine (DP0.out _).mono ?_)
    rintro e w1 ⟨rfl, hb1⟩
    have H1 := Lib.hid (HB0.out.trans (hb1.mono HB0.out.size))
    clear hb1
    go_wp2_with fail
    (with_reducible refine (DR.out _ (HR.out.keep H1.out)).mono ?_)
    rintro e w2 ⟨rfl, hb2⟩
    have H2 := Lib.hid (H1.out.trans (hb2.mono H1.out.size))
    clear hb2
    go_wp2_with fail
    (with_reducible refine (DA.out _ (HT.out.keep H2.out)).mono ?_)
    rintro e w3 ⟨rfl, hb3⟩
    have H3 := Lib.hid (H2.out.trans (hb3.mono H2.out.size))
    clear hb3
    go_wp2
    go_ret
    exact ⟨rfl, H3.out⟩
  · obtain ⟨g, off, had, hg, hA⟩ := HR0.out.at_ h0
    have HF := Lib.hid (rows_flat HL.out hA)
    subst had
    clear hA
    go_enter Tryd.func7, Tryd.ntmps7
    go_wp2_with (at_builtin; refine wpList_append_fresh rng_info Tryd.underlying48 _ rfl _ _ rfl _ rfl g off n cap (flatR l) rfl HF.out (by unfold flatR; rw [List.length_map, List.length_range, HL.out]) ?c1 (by omega) (by decide) (by omega) ?_)
    case c1 =>
      intro u hu
      unfold flatR at hu
      obtain ⟨j, _, rfl⟩ := List.mem_map.1 hu
      split
      · rfl
      · split <;> rfl
    intro cap' w1 hc hb1 hz1 hat _
    have HRW := Lib.hid (flat_rows HL.out (by omega) (by omega) hat)
    have H1 := Lib.hid (HB0.out.trans (hb1.mono (by first | exact HB0.out.size | omega)))
    clear hb1 hat
    go_wp2_with fail
    (with_reducible refine (DP.out _ _ _ HRW.out).mono ?_)
    rintro e w2 ⟨rfl, hb2⟩
    have H2 := Lib.hid (H1.out.trans (hb2.mono H1.out.size))
    clear hb2
    go_wp2_with fail
    (with_reducible refine (DR.out _ (HR.out.keep H2.out)).mono ?_)
    rintro e w3 ⟨rfl, hb3⟩
    have H3 := Lib.hid (H2.out.trans (hb3.mono H2.out.size))
    clear hb3
    go_wp2_with fail
    (with_reducible refine (DA.out _ (HT.out.keep H3.out)).mono ?_)
    rintro e w4 ⟨rfl, hb4⟩
    have H4 := Lib.hid (H3.out.trans (hb4.mono H3.out.size))
    clear hb4
    go_wp2
    go_ret
    exact ⟨rfl, H4.out⟩
end Go.Proofs.YtebbmelmifffgaaDoor
