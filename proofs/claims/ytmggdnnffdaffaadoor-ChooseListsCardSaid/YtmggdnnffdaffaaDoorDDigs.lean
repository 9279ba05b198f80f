/- digitsOf: a decimal's digits in a block of the call's own. -/
import Derived.Test.YtmggdnnffdaffaaDoorDMem
import Derived.RegionTactic
import Derived.BigRegion
import Derived.Deep.DrawnRows
namespace Go.Proofs.YtmggdnnffdaffaaDoor
open Go.RowKit
attribute [local go_sem ↓] Go.wp_at_zero Go.wp_at_succ

/-- The digits of a decimal at so many places ahead of the point and behind it. -/
def placed (li lf : List Nat) (whole scale : Nat) : List Nat := List.replicate (whole - li.length) 0 ++ (li ++ lf) ++ List.replicate (scale - lf.length) 0
theorem placed_len {li lf : List Nat} {whole scale : Nat} (h1 : li.length ≤ whole) (h2 : lf.length ≤ scale) : (placed li lf whole scale).length = whole + scale := by
  unfold placed
  simp only [List.length_append, List.length_replicate]
  omega
theorem placed_digs {li lf : List Nat} {whole scale : Nat} (h1 : Digs li) (h2 : Digs lf) : Digs (placed li lf whole scale) := .append (.append (.zeros _) (.append h1 h2)) (.zeros _)
/-- The places while the bytes are made numbers: so many are done. -/
def half (li lf : List Nat) (whole scale k : Nat) : List Nat := List.replicate (whole - li.length) 0 ++ ((li ++ lf).take k ++ ((li ++ lf).drop k).map (48 + ·)) ++ List.replicate (scale - lf.length) 0
theorem half_end (li lf : List Nat) (whole scale k : Nat) (h : ¬ k < li.length + lf.length) : half li lf whole scale k = placed li lf whole scale := by
  unfold half placed
  rw [List.take_of_length_le (by simp; omega), List.drop_eq_nil_of_le (by simp; omega)]
  simp
theorem half_get (li lf : List Nat) (whole scale k : Nat) (h : k < li.length + lf.length) : (half li lf whole scale k).getD (whole - li.length + k) 0 = 48 + (li ++ lf).getD k 0 ∧ (half li lf whole scale k).set (whole - li.length + k) ((li ++ lf).getD k 0) = half li lf whole scale (k + 1) ∧ whole - li.length + k < (half li lf whole scale k).length := by
  have hl : k < (li ++ lf).length := by simp; omega
  have e1 : (li ++ lf).drop k = (li ++ lf).getD k 0 :: (li ++ lf).drop (k + 1) := by
    rw [List.drop_eq_getElem_cons hl, List.getD_eq_getElem?_getD, List.getElem?_eq_getElem hl]
    rfl
  have e2 : (li ++ lf).take (k + 1) = (li ++ lf).take k ++ [(li ++ lf).getD k 0] := by
    rw [List.take_succ_eq_append_getElem hl, List.getD_eq_getElem?_getD, List.getElem?_eq_getElem hl]
    rfl
  have e3 : half li lf whole scale k = (List.replicate (whole - li.length) 0 ++ (li ++ lf).take k) ++ (48 + (li ++ lf).getD k 0) :: (((li ++ lf).drop (k + 1)).map (48 + ·) ++ List.replicate (scale - lf.length) 0) := by
    unfold half
    rw [e1]
    simp
  have hp : whole - li.length + k = (List.replicate (whole - li.length) 0 ++ (li ++ lf).take k).length := by simp; omega
  rw [e3]
  refine ⟨get_mid _ _ _ _ hp, ?_, ?_⟩
  · rw [set_mid _ _ _ _ _ hp]
    unfold half
    rw [e2]
    simp
  · rw [List.length_append, ← hp]
    simp

theorem splice_two (li lf : List Nat) (whole scale : Nat) (h1 : Digs li) (h2 : Digs lf) (l1 : li.length ≤ whole) (l2 : lf.length ≤ scale) :
    splice (splice (nC (List.replicate (whole + scale) 0)) (whole - li.length) (Lib.byteCells (dStr li).data.toList)) whole (Lib.byteCells (dStr lf).data.toList) = nC (half li lf whole scale 0) := by
  rw [byte_cells li h1, byte_cells lf h2]
  have e1 : splice (nC (List.replicate (whole + scale) 0)) (whole - li.length) (nC (li.map (48 + ·))) = nC ((List.replicate (whole - li.length) 0 ++ li.map (48 + ·)) ++ List.replicate scale 0) := by
    unfold splice
    rw [nC_len, ← nC_take, ← nC_drop, ← nC_append, ← nC_append]
    congr 1
    rw [List.take_replicate, List.drop_replicate, List.length_map, List.append_assoc]
    congr 2
    · omega
    · congr 1
      omega
  rw [e1]
  unfold splice
  rw [nC_len, ← nC_take, ← nC_drop, ← nC_append, ← nC_append]
  congr 1
  have hl : (List.replicate (whole - li.length) 0 ++ li.map (48 + ·)).length = whole := by simp; omega
  rw [List.take_append_of_le_length (by omega), List.take_of_length_le (by omega), List.drop_append, hl, List.drop_eq_nil_of_le (by rw [hl]; omega), List.drop_replicate]
  unfold half
  simp

set_option maxHeartbeats 4000000 in
set_option maxRecDepth 100000 in
theorem digitsOf_any (n : Bool) (li lf : List Nat) (whole b scale : Nat) (w : World) (h1 : Digs li) (h2 : Digs lf) (l0 : 1 ≤ li.length) (l1 : whole = b + li.length) (l2 : lf.length ≤ scale) (l3 : whole + scale ≤ 1000000) :
    Calls Tryd.prog 35 #[.agg #[.bool n, .string (dStr li), .string (dStr lf)], .int .i64 whole, .int .i64 scale] w fun e w' => e = .returned (.slice (some ⟨w.heap.size + 1, 0, none⟩) (whole + scale) (whole + scale)) ∧ Blk w' (w.heap.size + 1) (nC (placed li lf whole scale)) ∧ Below w.heap.size w w' := by
  have H1 := Lib.hid h1
  have H2 := Lib.hid h2
  have si : (dStr li).size = li.length := dStr_size li
  have sf : (dStr lf).size = lf.length := dStr_size lf
  have HH := Lib.hid (splice_two li lf whole scale h1 h2 (by omega) l2)
  rw [show whole - li.length = b by omega] at HH
  subst l1
  obtain ⟨Z, hZ⟩ : ∃ Z, Z = (nC (List.replicate (b + li.length + scale) 0)).toArray := ⟨_, rfl⟩
  have hmk := fun w => make_bytes (b + li.length + scale) (by omega) w Z hZ
  rw [show ((b + li.length + scale : Nat) : Int) = (b : Int) + (li.length : Int) + (scale : Int) by omega] at hmk
  have HZ := Lib.hid hZ
  clear hZ
  clear h1 h2
  have q7 : ¬ li = [] := by intro e; rw [e] at l0; simp at l0
  by_cases hsc : scale = 0
  · have l20 : lf.length = 0 := by omega
    subst hsc
    simp only [Nat.add_zero] at HH HZ l3
    replace hmk : ∀ w, (Instr.makeSlice 71 (.int .i64 ((b : Int) + (li.length : Int))) (.int .i64 ((b : Int) + (li.length : Int)))).run Tryd.prog w = .ok (.slice (some ⟨w.heap.size, 0, none⟩) (b + li.length) (b + li.length)) (w.alloc (.cells Z 5)) := by
      intro w
      have := make_bytes (b + li.length) (by omega) w Z HZ.out
      rw [show ((b + li.length : Nat) : Int) = (b : Int) + (li.length : Int) by omega] at this
      exact this
    go_enter Tryd.func35, Tryd.ntmps35
    go_wp2
    go_quiet (fail)
    go_wp2
    obtain ⟨W2, hW2⟩ : ∃ W2, W2 = ((w.alloc (.cells #[.bool n, .string (dStr li), .string (dStr lf)] 27)).alloc (.cells Z 5)).drewN nq := ⟨_, rfl⟩
    have hb2 : Below w.heap.size w W2 := by rw [hW2]; exact below_drewN (((Below.refl _ w).alloc (Nat.le_refl _) _).alloc (by simp) _) nq
    have c1 : W2.cell? ⟨w.heap.size, 1, none⟩ = some (.string (dStr li)) := by rw [hW2]; simp
    have c2 : W2.cell? ⟨w.heap.size, 2, none⟩ = some (.string (dStr lf)) := by rw [hW2]; simp
    have k2 : Blk W2 (w.heap.size + 1) (nC (List.replicate (b + li.length) 0)) := by
      rw [hW2]
      have := Blk.new (w.alloc (.cells #[.bool n, .string (dStr li), .string (dStr lf)] 27)) (nC (List.replicate (b + li.length) 0)) Z HZ.out
      rw [show (w.alloc (.cells #[.bool n, .string (dStr li), .string (dStr lf)] 27)).heap.size = w.heap.size + 1 by simp] at this
      exact this.drewN nq
    rw [← hW2]
    have K2 := Lib.hid k2
    have B2 := Lib.hid hb2
    clear hW2 k2 hb2
    have q1 : (b : Int) ≤ (b : Int) + (li.length : Int) := by omega
    have q2 : ¬ (b + li.length = b) := by omega
    have q5 : (0 : Int) ≤ (b : Int) + (li.length : Int) := by omega
    have q6 : ((b : Int) + (li.length : Int)).toNat = b + li.length := by omega
    go_region_law ((refine step_copy_str rfl _ _ (by rfl) _ _ _ (by rfl) (dStr li) (by rfl) (by rw [si]; omega) (w.heap.size + 1) b _ (by exact K2.out) (fun _ => by rfl) (by rw [si, nC_len]; simp) (w.heap.size + 1) W2 ⟨rfl, rfl, rfl, Nat.le_refl _, fun _ _ => rfl⟩ (Nat.le_refl _) ?_; intro W3 K3 B3))
    have d2 : W3.cell? ⟨w.heap.size, 2, none⟩ = some (.string (dStr lf)) := (B3.cell (p := ⟨w.heap.size, 2, none⟩) (Nat.lt_succ_self _)).trans c2
    have B3' := Lib.hid (B2.out.trans (B3.mono (Nat.le_succ _)))
    clear c1 c2 B3 B2 K2
    have LS := Lib.hid (length_splice (nC (List.replicate (b + li.length) 0)) b (Lib.byteCells (dStr li).data.toList) (by rw [nC_len, Lib.byteCells_length]; simp; omega))
    go_wp2
    go_region_law ((refine step_copy_str rfl _ _ (by rfl) _ _ _ (by rfl) (dStr lf) (by rfl) (by rw [sf]; omega) (w.heap.size + 1) (b + li.length) _ (by exact K3.out) (fun h => absurd h (by rw [sf]; omega)) (by rw [sf, LS.out, nC_len]; simp; omega) (w.heap.size + 1) W3 ⟨rfl, rfl, rfl, Nat.le_refl _, fun _ _ => rfl⟩ (Nat.le_refl _) ?_; intro W4 K4 B4))
    have K5 : Hid (Blk W4 (w.heap.size + 1) (nC (half li lf (b + li.length) 0 0))) := by rw [← HH.out]; exact K4.out
    have B5 := Lib.hid (B3'.out.trans (B4.mono (Nat.le_succ _)))
    clear K3 K4 B3' B4 d2 q1 q2 q5 q6 hmk
    go_wp2
    go_loopw [10] (fun i wr => ∃ k : Nat, i = .int .i64 ((b + k : Nat) : Int) ∧ k ≤ li.length + lf.length ∧ Blk wr (w.heap.size + 1) (nC (half li lf (b + li.length) 0 k)) ∧ Below w.heap.size w wr) (fun i _ => b + li.length + lf.length - (intOf i).toNat)
    case atStart => exact ⟨0, rfl, by omega, K5.out, B5.out⟩
    case round =>
      obtain ⟨k, rfl, hk, hB, hbw⟩ := hrel
      have HB := Lib.hid hB
      have hf := hB.frozen (b + k)
      have HW := Lib.hid hbw
      clear hB hbw
      by_cases hlt : k < li.length + lf.length
      · obtain ⟨g1, g2, g3⟩ := half_get li lf (b + li.length) 0 k hlt
        rw [show b + li.length - li.length = b by omega] at g1 g2 g3
        have hd : (li ++ lf).getD k 0 < 10 := by
          rw [List.getD_eq_getElem?_getD, List.getElem?_eq_getElem (by simp; omega)]
          exact (H1.out.append H2.out) _ (List.getElem_mem _)
        have hc : wr.cell? ⟨w.heap.size + 1, b + k, none⟩ = some (.int .u8 (48 + ((li ++ lf).getD k 0 : Int))) := by
          rw [HB.out.cell, nC_get _ _ g3, g1]
          rfl
        generalize (li ++ lf).getD k 0 = d at *
        have G2 := Lib.hid g2
        clear g1 g2 g3
        go_wp2
        go_roundw
        case rel => exact ⟨k + 1, by go_num, by omega, by
          have := HB.out.set_ (b + k) (.int .u8 (d : Int))
          rw [nC_set, G2.out] at this
          rw [show (48 + (d : Int) - 48) = d by omega]
          exact this, HW.out.setCell (p := ⟨w.heap.size + 1, b + k, none⟩) (Nat.le_succ _) _⟩
        case measure => simp [intOf]; omega
      · have HE := Lib.hid (half_end li lf (b + li.length) 0 k hlt)
        go_wp2
        go_ret
        exact ⟨rfl, by rw [← HE.out]; exact HB.out, HW.out⟩
  · have hsc' : 0 < scale := by omega
    go_enter Tryd.func35, Tryd.ntmps35
    go_wp2
    go_quiet (fail)
    go_wp2
    obtain ⟨W2, hW2⟩ : ∃ W2, W2 = ((w.alloc (.cells #[.bool n, .string (dStr li), .string (dStr lf)] 27)).alloc (.cells Z 5)).drewN nq := ⟨_, rfl⟩
    have hb2 : Below w.heap.size w W2 := by rw [hW2]; exact below_drewN (((Below.refl _ w).alloc (Nat.le_refl _) _).alloc (by simp) _) nq
    have c1 : W2.cell? ⟨w.heap.size, 1, none⟩ = some (.string (dStr li)) := by rw [hW2]; simp
    have c2 : W2.cell? ⟨w.heap.size, 2, none⟩ = some (.string (dStr lf)) := by rw [hW2]; simp
    have k2 : Blk W2 (w.heap.size + 1) (nC (List.replicate (b + li.length + scale) 0)) := by
      rw [hW2]
      have := Blk.new (w.alloc (.cells #[.bool n, .string (dStr li), .string (dStr lf)] 27)) (nC (List.replicate (b + li.length + scale) 0)) Z HZ.out
      rw [show (w.alloc (.cells #[.bool n, .string (dStr li), .string (dStr lf)] 27)).heap.size = w.heap.size + 1 by simp] at this
      exact this.drewN nq
    rw [← hW2]
    have K2 := Lib.hid k2
    have B2 := Lib.hid hb2
    clear hW2 k2 hb2
    have q1 : (b : Int) ≤ (b : Int) + (li.length : Int) + (scale : Int) := by omega
    have q2 : ¬ (b + li.length + scale = b) := by omega
    have q3 : (b : Int) + (li.length : Int) ≤ (b : Int) + (li.length : Int) + (scale : Int) := by omega
    have q5 : (0 : Int) ≤ (b : Int) + (li.length : Int) := by omega
    have q6 : ((b : Int) + (li.length : Int)).toNat = b + li.length := by omega
    have q4 : ¬ (b + li.length + scale = b + li.length) := by omega
    have q0 : ¬ scale = 0 := hsc
    go_region_law ((refine step_copy_str rfl _ _ (by rfl) _ _ _ (by rfl) (dStr li) (by rfl) (by rw [si]; omega) (w.heap.size + 1) b _ (by exact K2.out) (fun _ => by rfl) (by rw [si, nC_len]; simp) (w.heap.size + 1) W2 ⟨rfl, rfl, rfl, Nat.le_refl _, fun _ _ => rfl⟩ (Nat.le_refl _) ?_; intro W3 K3 B3))
    have d2 : W3.cell? ⟨w.heap.size, 2, none⟩ = some (.string (dStr lf)) := (B3.cell (p := ⟨w.heap.size, 2, none⟩) (Nat.lt_succ_self _)).trans c2
    have B3' := Lib.hid (B2.out.trans (B3.mono (Nat.le_succ _)))
    clear c1 c2 B3 B2 K2
    have LS := Lib.hid (length_splice (nC (List.replicate (b + li.length + scale) 0)) b (Lib.byteCells (dStr li).data.toList) (by rw [nC_len, Lib.byteCells_length]; simp; omega))
    go_wp2
    go_region_law ((refine step_copy_str rfl _ _ (by rfl) _ _ _ (by rfl) (dStr lf) (by rfl) (by rw [sf]; omega) (w.heap.size + 1) (b + li.length) _ (by exact K3.out) (fun _ => by rfl) (by rw [sf, LS.out, nC_len]; simp; omega) (w.heap.size + 1) W3 ⟨rfl, rfl, rfl, Nat.le_refl _, fun _ _ => rfl⟩ (Nat.le_refl _) ?_; intro W4 K4 B4))
    have K5 : Hid (Blk W4 (w.heap.size + 1) (nC (half li lf (b + li.length) scale 0))) := by rw [← HH.out]; exact K4.out
    have B5 := Lib.hid (B3'.out.trans (B4.mono (Nat.le_succ _)))
    clear K3 K4 B3' B4 d2 q1 q2 q3 q5 q6 hmk
    go_wp2
    go_loopw [10] (fun i wr => ∃ k : Nat, i = .int .i64 ((b + k : Nat) : Int) ∧ k ≤ li.length + lf.length ∧ Blk wr (w.heap.size + 1) (nC (half li lf (b + li.length) scale k)) ∧ Below w.heap.size w wr) (fun i _ => b + li.length + lf.length - (intOf i).toNat)
    case atStart => exact ⟨0, rfl, by omega, K5.out, B5.out⟩
    case round =>
      obtain ⟨k, rfl, hk, hB, hbw⟩ := hrel
      have HB := Lib.hid hB
      have hf := hB.frozen (b + k)
      have HW := Lib.hid hbw
      clear hB hbw
      by_cases hlt : k < li.length + lf.length
      · obtain ⟨g1, g2, g3⟩ := half_get li lf (b + li.length) scale k hlt
        rw [show b + li.length - li.length = b by omega] at g1 g2 g3
        have hd : (li ++ lf).getD k 0 < 10 := by
          rw [List.getD_eq_getElem?_getD, List.getElem?_eq_getElem (by simp; omega)]
          exact (H1.out.append H2.out) _ (List.getElem_mem _)
        have hc : wr.cell? ⟨w.heap.size + 1, b + k, none⟩ = some (.int .u8 (48 + ((li ++ lf).getD k 0 : Int))) := by
          rw [HB.out.cell, nC_get _ _ g3, g1]
          rfl
        generalize (li ++ lf).getD k 0 = d at *
        have G2 := Lib.hid g2
        clear g1 g2 g3
        go_wp2
        go_roundw
        case rel => exact ⟨k + 1, by go_num, by omega, by
          have := HB.out.set_ (b + k) (.int .u8 (d : Int))
          rw [nC_set, G2.out] at this
          rw [show (48 + (d : Int) - 48) = d by omega]
          exact this, HW.out.setCell (p := ⟨w.heap.size + 1, b + k, none⟩) (Nat.le_succ _) _⟩
        case measure => simp [intOf]; omega
      · have HE := Lib.hid (half_end li lf (b + li.length) scale k hlt)
        go_wp2
        go_ret
        exact ⟨rfl, by rw [← HE.out]; exact HB.out, HW.out⟩
end Go.Proofs.YtmggdnnffdaffaaDoor
