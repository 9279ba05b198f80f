/- divide: the quotient and the rest of digits. -/
import Derived.Test.YtmggdnnffdaffaaDoorDCmp
import Derived.Deep.RegionHeld3
import Derived.IntWalk
namespace Go.Proofs.YtmggdnnffdaffaaDoor
open Go.RowKit
attribute [local go_sem ↓] Go.wp_at_zero Go.wp_at_succ

theorem shift_val {rs : List Nat} {n : Nat} (d : Nat) (hn : rs.length = n) (h1 : 1 ≤ n) (hlt : dVal rs < 10 ^ (n - 1)) : dVal (rs.drop 1 ++ [d]) = dVal rs * 10 + d := by
  cases rs with
  | nil => simp at hn; omega
  | cons x t =>
    rw [List.drop_succ_cons, List.drop_zero, dVal_snoc]
    rw [dVal_cons] at hlt ⊢
    have ht : t.length = n - 1 := by rw [List.length_cons] at hn; omega
    rw [ht] at hlt ⊢
    have hx : x = 0 := by
      rcases Nat.eq_zero_or_pos x with h | h
      · exact h
      · have : 1 * 10 ^ (n - 1) ≤ x * 10 ^ (n - 1) := Nat.mul_le_mul_right _ h
        omega
    subst hx
    omega
theorem shift_cells {rs : List Nat} {n d : Nat} (hn : rs.length = n) (h1 : 2 ≤ n) : (splice (nC rs) 0 (nC (rs.drop 1))).set (n - 1) (.int .u8 (d : Int)) = nC (rs.drop 1 ++ [d]) := by
  unfold splice
  rw [List.take_zero, List.nil_append, nC_len, List.length_drop, hn, ← nC_drop, ← nC_append, nC_set]
  congr 1
  have e : rs.drop (0 + (n - 1)) = [rs.getD (n - 1) 0] := by
    rw [Nat.zero_add, drop_at rs (n - 1) (by omega), List.drop_eq_nil_of_le (by omega)]
  rw [e]
  exact set_mid _ _ _ _ _ (by rw [List.length_drop, hn])
theorem splice_last {rs r1 : List Nat} {n : Nat} (hn : rs.length = n) (h1 : r1.length = n - 1) (h2 : 2 ≤ n) : (splice (nC rs) 0 (nC r1))[n - 1]? = some (.int .u8 ((rs.getD (n - 1) 0 : Nat) : Int)) := by
  unfold splice
  rw [List.take_zero, List.nil_append, nC_len, h1, Nat.zero_add, ← nC_drop, drop_at rs (n - 1) (by omega), ← nC_append, nC_get _ _ (by rw [List.length_append, h1]; simp), get_mid _ _ _ _ h1.symm]
theorem shift_digs {rs : List Nat} {d : Nat} (h : Digs rs) (hd : d < 10) : Digs (rs.drop 1 ++ [d]) := (h.drop 1).append (Digs.cons hd Digs.nil)
theorem shift_len {rs : List Nat} {n d : Nat} (hn : rs.length = n) (h1 : 2 ≤ n) : (rs.drop 1 ++ [d]).length = n := by rw [List.length_append, List.length_drop, hn]; simp; omega

/-- The quotient's place that is being reckoned. -/
def cellN (w : World) (p : Addr) : Nat := (intOf ((w.cell? p).getD (.int .u8 0))).toNat
theorem cellN_of {w : World} {p : Addr} {c : Nat} (h : w.cell? p = some (.int .u8 (c : Int))) : cellN w p = c := by unfold cellN; rw [h]; simp [intOf]

def Divided (w : World) (n q r : Nat) (e : Ending) (w' : World) : Prop :=
  ∃ g, e = .returned (.tuple #[.slice (some ⟨w.heap.size, 0, none⟩) n n, .slice (some ⟨g, 0, none⟩) n n]) ∧ Blk w' w.heap.size (nC (fixD n q)) ∧ Blk w' g (nC (fixD n r)) ∧ Below w.heap.size w w'

set_option maxHeartbeats 4000000 in
set_option maxRecDepth 100000 in
theorem divide_any (la lb : List Nat) (ga gb n : Nat) (w : World) (hA : Blk w ga (nC la)) (hB : Blk w gb (nC lb)) (da : Digs la) (db : Digs lb) (ha : la.length = n) (hb : lb.length = n) (hn1 : 2 ≤ n) (hn : n ≤ 1000000) (hs : dVal lb < 10 ^ (n - 1)) (h0 : 0 < dVal lb) :
    Calls Tryd.prog 55 #[.slice (some ⟨ga, 0, none⟩) n n, .slice (some ⟨gb, 0, none⟩) n n] w (Divided w n (dVal la / dVal lb) (dVal la % dVal lb)) := by
  have LA := hA.lt
  have LB := hB.lt
  obtain ⟨Z, hZ⟩ : ∃ Z, Z = (nC (List.replicate n 0)).toArray := ⟨_, rfl⟩
  have hmk := fun w => make_bytes n hn w Z hZ
  have K0 := Blk.new w (nC (List.replicate n 0)) Z hZ
  have K1 := Lib.hid (K0.alloc (.cells Z 5))
  have K2 : Hid (Blk ((w.alloc (.cells Z 5)).alloc (.cells Z 5)) (w.heap.size + 1) (nC (List.replicate n 0))) := by
    have := Blk.new (w.alloc (.cells Z 5)) (nC (List.replicate n 0)) Z hZ
    rw [show (w.alloc (.cells Z 5)).heap.size = w.heap.size + 1 by simp] at this
    exact this
  have HA := Lib.hid hA
  have HB := Lib.hid hB
  have HDA := Lib.hid da
  have HDB := Lib.hid db
  have HLA := Lib.hid ha
  have HLB := Lib.hid hb
  have HS := Lib.hid hs
  have H0 := Lib.hid h0
  have B0 := Lib.hid (((Below.refl _ w).alloc (Nat.le_refl _) (.cells Z 5)).alloc (by simp) (.cells Z 5))
  have DC : Hid (∀ (g : Nat) (rs : List Nat) (wx : World), Blk wx g (nC rs) → Digs rs → rs.length = n → Below w.heap.size w wx → Calls Tryd.prog 31 #[.slice (some ⟨g, 0, none⟩) n n, .slice (some ⟨gb, 0, none⟩) n n] wx fun e w' => e = .returned (.int .i64 (cmpN (dVal rs) (dVal lb))) ∧ Below wx.heap.size wx w') :=
    fun g rs wx h1 h2 h3 h4 => compare_any rs lb g gb n wx h1 (HB.out.below h4 LB) h2 HDB.out h3 HLB.out hn
  have DS : Hid (∀ (g : Nat) (rs : List Nat) (wx : World), Blk wx g (nC rs) → Digs rs → rs.length = n → Below w.heap.size w wx → dVal lb ≤ dVal rs → Calls Tryd.prog 65 #[.slice (some ⟨g, 0, none⟩) n n, .slice (some ⟨gb, 0, none⟩) n n] wx (MadeN wx n (dVal rs - dVal lb))) :=
    fun g rs wx h1 h2 h3 h4 h5 => subtract_any rs lb g gb n wx h1 (HB.out.below h4 LB) h2 HDB.out h3 HLB.out (by omega) hn h5
  clear hZ hA hB da db ha hb hs h0 K0
  go_enter Tryd.func55, Tryd.ntmps55
  go_wp2
  -- outer: k places of a are taken; ds is the quotient so far, rs the rest
  go_loopw [5, 16] (fun rv iv wr => ∃ (k g : Nat) (ds rs : List Nat), iv = .int .i64 (k : Int) ∧ rv = .slice (some ⟨g, 0, none⟩) n n ∧ k ≤ n ∧ ds.length = k ∧ Digs ds ∧ Digs rs ∧ rs.length = n ∧ w.heap.size < g ∧ dVal ds * dVal lb + dVal rs = dVal (la.take k) ∧ dVal rs < dVal lb ∧ Blk wr w.heap.size (nC (ds ++ List.replicate (n - k) 0)) ∧ Blk wr g (nC rs) ∧ Below w.heap.size w wr) (fun _ i _ => n - (intOf i).toNat)
  case atStart =>
    refine ⟨0, w.heap.size + 1, [], List.replicate n 0, rfl, by simp, by omega, rfl, Digs.nil, Digs.zeros _, by simp, by omega, ?_, ?_, ?_, K2.out, B0.out⟩
    · rw [dVal_nil, dVal_zeros, List.take_zero, dVal_nil]; omega
    · rw [dVal_zeros]; exact H0.out
    · rw [List.nil_append, Nat.sub_zero]; exact K1.out
  case round =>
    obtain ⟨k, g, ds, rs, rfl, rfl, hk, hlds, hdds, hdrs, hlrs, hg, hE, hlt, hQ, hR, hbw⟩ := hrel
    have HLD := Lib.hid hlds
    have HDD := Lib.hid hdds
    have HDR := Lib.hid hdrs
    have HLR := Lib.hid hlrs
    have HE := Lib.hid hE
    have HLT := Lib.hid hlt
    have HQ := Lib.hid hQ
    have HR := Lib.hid hR
    have HW := Lib.hid hbw
    have LG := hR.lt
    have LQ := hQ.lt
    have hfr := fun i => hR.frozen i
    clear hlds hdds hdrs hlrs hE hlt hQ hR hbw
    by_cases hk0 : k = n
    · subst hk0
      have HE2 : Hid (dVal ds = dVal la / dVal lb ∧ dVal rs = dVal la % dVal lb) := by
        have := HE.out
        rw [List.take_of_length_le (Nat.le_of_eq HLA.out)] at this
        exact over_end this HLT.out
      have HQ2 : Hid (Blk wr w.heap.size (nC (fixD k (dVal la / dVal lb)))) := by
        have h := HQ.out
        rw [Nat.sub_self, List.replicate_zero, List.append_nil] at h
        rw [← fixD_of HDD.out HLD.out (by omega) HE2.out.1]
        exact h
      have HR2 : Hid (Blk wr g (nC (fixD k (dVal la % dVal lb)))) := by
        rw [← fixD_of HDR.out HLR.out (by omega) HE2.out.2]
        exact HR.out
      go_wp2
      exact bodyPost_ret (v := .tuple #[.slice (some ⟨w.heap.size, 0, none⟩) k k, .slice (some ⟨g, 0, none⟩) k k]) (by simp [results, Tryd.results55, go_sem]) rfl ⟨g, rfl, HQ2.out, HR2.out, HW.out⟩
    · have hkn : k < n := by omega
      have hx := getD_digs HDA.out k
      have c1 : wr.cell? ⟨ga, k, none⟩ = some (.int .u8 (la.getD k 0 : Int)) := by
        rw [HW.out.cell (p := ⟨ga, k, none⟩) LA, HA.out.cell, nC_get _ _ (by rw [HLA.out]; omega)]
      have HT : Hid (dVal (la.take (k + 1)) = dVal (la.take k) * 10 + la.getD k 0) := by show _ = _; rw [take_at la k (by rw [HLA.out]; exact hkn), dVal_snoc]
      generalize la.getD k 0 = d at *
      have HSV : Hid (dVal (rs.drop 1 ++ [d]) = dVal rs * 10 + d) := shift_val d HLR.out (by omega) (by have := HLT.out; have := HS.out; omega)
      have HSD : Hid (Digs (rs.drop 1 ++ [d])) := shift_digs HDR.out hx
      have HSL : Hid ((rs.drop 1 ++ [d]).length = n) := shift_len HLR.out hn1
      have HSC := Lib.hid (shift_cells (d := d) HLR.out hn1)
      have HL1 : Hid ((rs.drop 1).length = n - 1) := by show _ = _; rw [List.length_drop, HLR.out]
      have HG1 : Hid (∀ j, (rs.drop 1).getD j 0 = rs.getD (1 + j) 0) := fun j => by rw [List.getD_eq_getElem?_getD, List.getD_eq_getElem?_getD, List.getElem?_drop]
      generalize rs.drop 1 = r1 at *
      have LR : rs.length = n := HLR.out
      have HLR2 := Lib.hid LR
      clear LR
      have i0 : (0 : Int) ≤ (k : Int) := by omega
      have i1 : (k : Int) < (n : Int) := by omega
      have i2 : (1 : Int) ≤ (n : Int) := by omega
      go_wp2_with (refine wpList_copy_splice (o := ⟨some 24, _, _, _, _, _⟩) (by rfl) _ _ _ _ (by rfl) 5 Tryd.underlying71 bytes_size _ _ _ _ _ _ (by rfl) (by rfl) g 0 (nC rs) 5 HR.out (nC r1) ?_ ?_ ?_ (nC_one _) g _ (Below.refl _ _) (Nat.le_refl _) ?_)
      · rw [nC_len, HL1.out]; exact (Nat.min_eq_left (by omega)).symm
      · intro h1 j v hv
        have hj : j < r1.length := by
          have := (List.getElem?_eq_some_iff.1 hv).1
          rwa [nC_len] at this
        have hj2 : j < n - 1 := by rw [← HL1.out]; exact hj
        rw [nC_get r1 j hj] at hv
        rw [← Option.some.inj hv, HR.out.cell, nC_get rs (1 + j) (by rw [HLR2.out]; omega), HG1.out j]
      · rw [nC_len, nC_len, HL1.out, HLR2.out]; omega
      intro W4 K4 B4
      have LG4 : g < W4.heap.size := by have := B4.size; omega
      have hf4 := fun i => Blk.frozen (show Blk W4 g _ from K4.out) i
      have hc4 : W4.cell? ⟨g, n - 1, none⟩ = some (.int .u8 ((rs.getD (n - 1) 0 : Nat) : Int)) := by
        rw [Blk.cell (show Blk W4 g _ from K4.out)]
        exact splice_last HLR2.out HL1.out hn1
      have K5 : Hid (Blk (W4.setCell ⟨g, n - 1, none⟩ (.int .u8 (d : Int))) g (nC (r1 ++ [d]))) := by
        have := (show Blk W4 g _ from K4.out).set_ (n - 1) (.int .u8 (d : Int))
        rw [HSC.out] at this
        exact this
      have B5 : Hid (Below g wr (W4.setCell ⟨g, n - 1, none⟩ (.int .u8 (d : Int)))) := B4.setCell (p := ⟨g, n - 1, none⟩) (Nat.le_refl _) _
      clear B4 K4
      go_wp2
      generalize W4.setCell ⟨g, n - 1, none⟩ (.int .u8 (d : Int)) = W5 at *
      clear hf4 hc4 hfr c1
      -- inner: c times b is taken away
      go_loopw [5] (fun rv wx => ∃ (c g2 : Nat) (ts : List Nat), rv = .slice (some ⟨g2, 0, none⟩) n n ∧ Digs ts ∧ ts.length = n ∧ w.heap.size < g2 ∧ c * dVal lb + dVal ts = dVal rs * 10 + d ∧ c ≤ 9 ∧ Blk wx w.heap.size (nC (ds ++ c :: List.replicate (n - k - 1) 0)) ∧ Blk wx g2 (nC ts) ∧ Below w.heap.size w wx) (fun _ wx => 10 - cellN wx ⟨w.heap.size, k, none⟩)
      case atStart =>
        refine ⟨0, g, r1 ++ [d], rfl, HSD.out, HSL.out, hg, by rw [HSV.out]; omega, by omega, ?_, K5.out, HW.out.trans (B5.out.mono (by omega))⟩
        have h := HQ.out.below B5.out hg
        rw [show List.replicate (n - k) 0 = 0 :: List.replicate (n - k - 1) 0 by rw [← List.replicate_succ]; congr 1; omega] at h
        exact h
      case round =>
        obtain ⟨c, g2, ts, rfl, hdts, hlts, hg2, hE2, hc, hQ2, hT2, hbw2⟩ := hrel
        have HDT := Lib.hid hdts
        have HLT2 := Lib.hid hlts
        have HE2 := Lib.hid hE2
        have HQ2 := Lib.hid hQ2
        have HT2 := Lib.hid hT2
        have HW2 := Lib.hid hbw2
        have LG2 := hT2.lt
        have LQ2 := hQ2.lt
        clear hdts hlts hE2 hQ2 hT2 hbw2
        by_cases hle : dVal lb ≤ dVal ts
        · have q : decide (0 ≤ cmpN (dVal ts) (dVal lb)) = true := decide_eq_true (by unfold cmpN; repeat' split; all_goals omega)
          have hc8 : c + 1 ≤ 9 := by
            have h1 := HE2.out
            have h2 := HLT.out
            have h3 : (c + 1) * dVal lb = c * dVal lb + dVal lb := Nat.succ_mul _ _
            rcases Nat.lt_or_ge 9 (c + 1) with h4 | h4
            · have : 10 * dVal lb ≤ (c + 1) * dVal lb := Nat.mul_le_mul_right _ h4
              omega
            · exact h4
          have DC2 := Lib.hid (fun wx h4 h1 => DC.out g2 ts wx h1 HDT.out HLT2.out h4)
          have DS2 := Lib.hid (fun wx h4 h1 => DS.out g2 ts wx h1 HDT.out HLT2.out h4 hle)
          generalize cmpN (dVal ts) (dVal lb) = cc at *
          have HLE := Lib.hid hle
          clear hle
          go_wp2_with fail
          (with_reducible refine (DC2.out _ ?_ ?_).mono ?_)
          · exact HW2.out
          · exact HT2.out
          rintro e W6 ⟨rfl, hb6⟩
          have HQ6 := Lib.hid (HQ2.out.below hb6 LQ2)
          have HT6 := Lib.hid (HT2.out.below hb6 LG2)
          have HW6 := Lib.hid (HW2.out.trans (hb6.mono (by omega)))
          have LQ6 := HQ6.out.lt
          clear hb6
          go_wp2_with fail
          (with_reducible refine (DS2.out _ ?_ ?_).mono ?_)
          · exact HW6.out
          · exact HT6.out
          rintro e W7 ⟨rfl, hk7, hb7⟩
          have K7 := Lib.hid hk7
          have HQ7 := Lib.hid (HQ6.out.below hb7 LQ6)
          have HW7 := Lib.hid (HW6.out.trans (hb7.mono (by omega)))
          have hf7 := fun i => HQ7.out.frozen i
          have hc7 : W7.cell? ⟨w.heap.size, k, none⟩ = some (.int .u8 (c : Int)) := by
            rw [HQ7.out.cell, nC_get _ _ (by simp [HLD.out]), get_mid _ _ _ _ HLD.out.symm]
          clear hk7 hb7
          go_wp2
          go_roundw
          case rel =>
            refine ⟨c + 1, W6.heap.size, fixD n (dVal ts - dVal lb), rfl, fixD_digs _ _, fixD_len (by omega) ?_, LQ6, ?_, hc8, ?_, ?_, ?_⟩
            · have := dVal_lt HDT.out
              rw [HLT2.out] at this
              omega
            · rw [fixD_val, Nat.succ_mul]
              have := HE2.out
              have := HLE.out
              omega
            · have := HQ7.out.set_ k (.int .u8 ((c + 1 : Nat) : Int))
              rw [nC_set, set_mid _ _ _ _ _ HLD.out.symm] at this
              exact this
            · exact K7.out.far (p := ⟨w.heap.size, k, none⟩) (by show W6.heap.size ≠ w.heap.size; omega) _
            · exact HW7.out.setCell (p := ⟨w.heap.size, k, none⟩) (Nat.le_refl _) _
          case measure =>
            rw [cellN_of (c := c + 1) (by exact cell_set_same _ _ _ _ hc7), cellN_of (c := c) (by rw [HQ2.out.cell, nC_get _ _ (by simp [HLD.out]), get_mid _ _ _ _ HLD.out.symm])]
            omega
        · have q : decide (0 ≤ cmpN (dVal ts) (dVal lb)) = false := decide_eq_false (by unfold cmpN; repeat' split; all_goals omega)
          have DC2 := Lib.hid (fun wx h4 h1 => DC.out g2 ts wx h1 HDT.out HLT2.out h4)
          generalize cmpN (dVal ts) (dVal lb) = cc at *
          have HLE := Lib.hid hle
          clear hle
          go_wp2_with fail
          (with_reducible refine (DC2.out _ ?_ ?_).mono ?_)
          · exact HW2.out
          · exact HT2.out
          rintro e W6 ⟨rfl, hb6⟩
          have HQ6 := Lib.hid (HQ2.out.below hb6 LQ2)
          have HT6 := Lib.hid (HT2.out.below hb6 LG2)
          have HW6 := Lib.hid (HW2.out.trans (hb6.mono (by omega)))
          clear hb6
          go_wp2
          go_roundw
          case rel =>
            refine ⟨k + 1, g2, ds ++ [c], ts, by go_num, rfl, by omega, by rw [List.length_append, HLD.out]; rfl, HDD.out.append (Digs.cons (by omega) Digs.nil), HDT.out, HLT2.out, hg2, ?_, by have := HLE.out; omega, ?_, HT6.out, HW6.out⟩
            · have h1 := HE2.out
              have h2 := HE.out
              rw [HT.out, dVal_snoc, ← h2, Nat.add_mul, Nat.add_mul, Nat.mul_right_comm]
              omega
            · rw [List.append_assoc, Nat.sub_add_eq]
              exact HQ6.out
          case measure => simp [intOf]; omega
end Go.Proofs.YtmggdnnffdaffaaDoor
