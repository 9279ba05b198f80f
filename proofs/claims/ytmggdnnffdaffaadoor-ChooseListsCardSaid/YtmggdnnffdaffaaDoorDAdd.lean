/- add and subtract of digits. -/
import Derived.Test.YtmggdnnffdaffaaDoorDMake
namespace Go.Proofs.YtmggdnnffdaffaaDoor
open Go.RowKit
attribute [local go_sem ↓] Go.wp_at_zero Go.wp_at_succ

/-- So many digits of a number. -/
def fixD (n v : Nat) : List Nat := padTo n (digs v)
theorem fixD_len {n v : Nat} (hn : 1 ≤ n) (h : v < 10 ^ n) : (fixD n v).length = n := by
  unfold fixD
  rw [padTo_len]
  have := (digs_le v n hn).2 h
  omega
theorem fixD_val (n v : Nat) : dVal (fixD n v) = v := by unfold fixD; rw [padTo_val, dVal_digs]
theorem fixD_digs (n v : Nat) : Digs (fixD n v) := padTo_digs (digs_digs v)
theorem fixD_of {l : List Nat} {n v : Nat} (hl : Digs l) (hn : l.length = n) (h1 : 1 ≤ n) (hv : dVal l = v) : l = fixD n v := by
  have hlt := dVal_lt hl
  refine dVal_inj hl (fixD_digs n v) ?_ (by rw [hv, fixD_val])
  rw [fixD_len h1 (by rw [← hv, ← hn]; exact hlt), hn]

theorem drop_at (l : List Nat) (m : Nat) (h : m < l.length) : l.drop m = l.getD m 0 :: l.drop (m + 1) := by
  rw [List.drop_eq_getElem_cons h, List.getD_eq_getElem?_getD, List.getElem?_eq_getElem h]
  rfl
theorem take_at (l : List Nat) (m : Nat) (h : m < l.length) : l.take (m + 1) = l.take m ++ [l.getD m 0] := by
  rw [List.take_succ_eq_append_getElem h, List.getD_eq_getElem?_getD, List.getElem?_eq_getElem h]
  rfl
theorem getD_digs {l : List Nat} (h : Digs l) (m : Nat) : l.getD m 0 < 10 := by
  rw [List.getD_eq_getElem?_getD]
  cases hm : l[m]? with
  | none => simp
  | some x => exact h x (List.mem_of_getElem? hm)
/-- The last place that is not done yet. -/
theorem mid_get (l rs : List Nat) (m : Nat) (h : m < l.length) : (l.take (m + 1) ++ rs).getD m 0 = l.getD m 0 ∧ (∀ y, (l.take (m + 1) ++ rs).set m y = l.take m ++ y :: rs) ∧ m < (l.take (m + 1) ++ rs).length := by
  rw [take_at l m h, List.append_assoc]
  have hm : m = (l.take m).length := by rw [List.length_take]; omega
  refine ⟨get_mid _ _ _ _ hm, fun y => set_mid _ _ _ _ _ hm, ?_⟩
  rw [List.length_append, ← hm]
  simp
theorem add_step {la lb rs : List Nat} {n m c : Nat} (ha : la.length = n) (hb : lb.length = n) (hm : m < n) (hr : rs.length = n - (m + 1)) (h : dVal rs + c * 10 ^ (n - (m + 1)) = dVal (la.drop (m + 1)) + dVal (lb.drop (m + 1))) :
    dVal ((la.getD m 0 + (lb.getD m 0 + c)) % 10 :: rs) + (la.getD m 0 + (lb.getD m 0 + c)) / 10 * 10 ^ (n - m) = dVal (la.drop m) + dVal (lb.drop m) := by
  rw [drop_at la m (by omega), drop_at lb m (by omega), dVal_cons, dVal_cons, dVal_cons, List.length_drop, List.length_drop, ha, hb, hr]
  have e : n - m = n - (m + 1) + 1 := by omega
  rw [e, Nat.pow_succ]
  generalize 10 ^ (n - (m + 1)) = p at *
  generalize la.getD m 0 = x
  generalize lb.getD m 0 = y
  generalize dVal rs = r at *
  generalize dVal (la.drop (m + 1)) = s at *
  generalize dVal (lb.drop (m + 1)) = t at *
  have e2 : (x + (y + c)) % 10 * p + (x + (y + c)) / 10 * (p * 10) = x * p + y * p + c * p := by
    have h3 : (x + (y + c)) = 10 * ((x + (y + c)) / 10) + (x + (y + c)) % 10 := (Nat.div_add_mod _ _).symm
    have h4 : x * p + y * p + c * p = (x + (y + c)) * p := by rw [Nat.add_mul, Nat.add_mul, Nat.add_assoc]
    rw [h4]
    conv => rhs; rw [h3, Nat.add_mul]
    rw [Nat.mul_comm p 10, ← Nat.mul_assoc, Nat.mul_comm _ 10, Nat.add_comm]
  omega

/-- What add, subtract and the like leave: so many digits of a number, in a block of their own. -/
def MadeN (w : World) (n v : Nat) (e : Ending) (w' : World) : Prop := e = .returned (.slice (some ⟨w.heap.size, 0, none⟩) n n) ∧ Blk w' w.heap.size (nC (fixD n v)) ∧ Below w.heap.size w w'

theorem sub_step {la lb rs : List Nat} {n m c d e : Nat} (ha : la.length = n) (hb : lb.length = n) (hm : m < n) (hr : rs.length = n - (m + 1)) (h : dVal rs + dVal (lb.drop (m + 1)) = dVal (la.drop (m + 1)) + c * 10 ^ (n - (m + 1)))
    (hd : d + (lb.getD m 0 + c) = la.getD m 0 + 10 * e) : dVal (d :: rs) + dVal (lb.drop m) = dVal (la.drop m) + e * 10 ^ (n - m) := by
  rw [drop_at la m (by omega), drop_at lb m (by omega), dVal_cons, dVal_cons, dVal_cons, List.length_drop, List.length_drop, ha, hb, hr]
  have e1 : n - m = n - (m + 1) + 1 := by omega
  rw [e1, Nat.pow_succ]
  generalize 10 ^ (n - (m + 1)) = p at *
  generalize la.getD m 0 = x at *
  generalize lb.getD m 0 = y at *
  generalize dVal rs = r at *
  generalize dVal (la.drop (m + 1)) = s at *
  generalize dVal (lb.drop (m + 1)) = t at *
  have h2 : (d + (y + c)) * p = (x + 10 * e) * p := by rw [hd]
  rw [Nat.add_mul, Nat.add_mul, Nat.add_mul] at h2
  have h3 : e * (p * 10) = 10 * e * p := by rw [Nat.mul_comm p 10, ← Nat.mul_assoc, Nat.mul_comm e 10]
  omega

set_option maxHeartbeats 4000000 in
set_option maxRecDepth 100000 in
theorem subtract_any (la lb : List Nat) (ga gb n : Nat) (w : World) (hA : Blk w ga (nC la)) (hB : Blk w gb (nC lb)) (da : Digs la) (db : Digs lb) (ha : la.length = n) (hb : lb.length = n) (hn1 : 1 ≤ n) (hn : n ≤ 1000000) (hs : dVal lb ≤ dVal la) :
    Calls Tryd.prog 65 #[.slice (some ⟨ga, 0, none⟩) n n, .slice (some ⟨gb, 0, none⟩) n n] w (MadeN w n (dVal la - dVal lb)) := by
  have LA := hA.lt
  have LB := hB.lt
  obtain ⟨Z, hZ⟩ : ∃ Z, Z = (nC (List.replicate n 0)).toArray := ⟨_, rfl⟩
  have hmk := fun w => make_bytes n hn w Z hZ
  have K0 := Lib.hid (Blk.new w (nC (List.replicate n 0)) Z hZ)
  have HA := Lib.hid (hA.alloc (.cells Z 5))
  have HB0 := Lib.hid hB
  have HDA := Lib.hid da
  have HDB := Lib.hid db
  have HLA := Lib.hid ha
  have HLB := Lib.hid hb
  have HS := Lib.hid hs
  clear hZ hA hB da db ha hb hs
  go_enter Tryd.func65, Tryd.ntmps65
  go_wp2_with (refine wp_copy_top (o := ⟨some 14, _, _, _, _, _⟩) (by rfl) _ _ (by rfl) _ _ _ _ _ _ (by rfl) (by rfl) ga w.heap.size 0 n la la (by rw [HLA.out]; simp) (Nat.le_of_eq HLA.out) (by exact HLA.out.symm) (by exact HLA.out.symm) (by intro _; rw [HLA.out, Nat.sub_self]; exact ⟨rfl, rfl⟩) (by intro j hj; rw [Nat.zero_add, HA.out.cell]; exact nC_get la j hj) K0.out ?_)
  intro W3 K3 B3
  have B4 := Lib.hid (((Below.refl _ w).alloc (Nat.le_refl _) (.cells Z 5)).trans B3)
  clear B3 HA K0 hmk
  go_wp2
  go_loopw [6, 7] (fun cv i wr => ∃ (k c : Nat) (rs : List Nat), i = .int .i64 ((k : Int) - 1) ∧ cv = .int .u8 (c : Int) ∧ c ≤ 1 ∧ k ≤ n ∧ Digs rs ∧ rs.length = n - k ∧ dVal rs + dVal (lb.drop k) = dVal (la.drop k) + c * 10 ^ (n - k) ∧ Blk wr w.heap.size (nC (la.take k ++ rs)) ∧ Below w.heap.size w wr) (fun _ i _ => (intOf i + 1).toNat)
  case atStart =>
    refine ⟨n, 0, [], by go_num, rfl, by omega, by omega, Digs.nil, by simp, ?_, ?_, B4.out⟩
    · rw [List.drop_eq_nil_of_le (Nat.le_of_eq HLA.out), List.drop_eq_nil_of_le (Nat.le_of_eq HLB.out), dVal_nil]; simp
    · rw [List.take_of_length_le (Nat.le_of_eq HLA.out), List.append_nil]; exact K3.out
  case round =>
    obtain ⟨k, c, rs, rfl, rfl, hc, hk, hdr, hlr, hE, hB, hbw⟩ := hrel
    have HDR := Lib.hid hdr
    have HLR := Lib.hid hlr
    have HE := Lib.hid hE
    have HBK := Lib.hid hB
    have HW := Lib.hid hbw
    have hf := fun i => hB.frozen i
    clear hdr hlr hE hB hbw
    by_cases hk0 : k = 0
    · subst hk0
      have HR : Hid (rs = fixD n (dVal la - dVal lb)) := by
        have h1 := HE.out
        simp only [List.drop_zero, Nat.sub_zero] at h1
        have h2 := HS.out
        have h4 := dVal_lt HDR.out
        rw [HLR.out, Nat.sub_zero] at h4
        have h3 : c = 0 := by
          rcases Nat.eq_zero_or_pos c with h | h
          · exact h
          · have : 1 * 10 ^ n ≤ c * 10 ^ n := Nat.mul_le_mul_right _ h
            omega
        subst h3
        exact fixD_of HDR.out (by rw [HLR.out]; omega) hn1 (by omega)
      go_wp2
      go_ret
      exact ⟨rfl, by rw [← HR.out]; exact HBK.out, HW.out⟩
    · obtain ⟨m, rfl⟩ : ∃ m, k = m + 1 := ⟨k - 1, by omega⟩
      obtain ⟨g1, g2, g3⟩ := mid_get la rs m (by rw [HLA.out]; omega)
      have hx := getD_digs HDA.out m
      have hy := getD_digs HDB.out m
      have c1 : wr.cell? ⟨w.heap.size, m, none⟩ = some (.int .u8 (la.getD m 0 : Int)) := by rw [HBK.out.cell, nC_get _ _ g3, g1]
      have c2 : wr.cell? ⟨gb, m, none⟩ = some (.int .u8 (lb.getD m 0 : Int)) := by
        rw [HW.out.cell (p := ⟨gb, m, none⟩) LB, HB0.out.cell, nC_get _ _ (by rw [HLB.out]; omega)]
      have ST := Lib.hid (fun d e => sub_step (d := d) (e := e) HLA.out HLB.out (show m < n by omega) HLR.out HE.out)
      have G2 := Lib.hid g2
      generalize la.getD m 0 = x at *
      generalize lb.getD m 0 = y at *
      clear g1 g2 g3
      by_cases hlt : x < y + c
      · have q : decide ((x : Int) < (y : Int) + (c : Int)) = true := decide_eq_true (by omega)
        go_wp2
        go_roundw
        case rel =>
          refine ⟨m, 1, (x + 10 - (y + c)) :: rs, rfl, by congr 1, by omega, by omega, Digs.cons (by omega) HDR.out, by rw [List.length_cons, HLR.out]; omega, ST.out _ _ (by omega), ?_, ?_⟩
          · have := (HBK.out.set_ m (.int .u8 ((x + 10 : Nat) : Int))).set_ m (.int .u8 ((x + 10 - (y + c) : Nat) : Int))
            rw [nC_set, nC_set, List.set_set, G2.out] at this
            rw [show ((x : Int) + 10 - ((y : Int) + (c : Int))) = ((x + 10 - (y + c) : Nat) : Int) by omega]
            exact this
          · exact ((HW.out.setCell (p := ⟨w.heap.size, m, none⟩) (Nat.le_refl _) _).setCell (p := ⟨w.heap.size, m, none⟩) (Nat.le_refl _) _)
        case measure => simp [intOf]
      · have q : decide ((x : Int) < (y : Int) + (c : Int)) = false := decide_eq_false (by omega)
        go_wp2
        go_roundw
        case rel =>
          refine ⟨m, 0, (x - (y + c)) :: rs, rfl, by congr 1, by omega, by omega, Digs.cons (by omega) HDR.out, by rw [List.length_cons, HLR.out]; omega, ST.out _ _ (by omega), ?_, ?_⟩
          · have := HBK.out.set_ m (.int .u8 ((x - (y + c) : Nat) : Int))
            rw [nC_set, G2.out] at this
            rw [show ((x : Int) - ((y : Int) + (c : Int))) = ((x - (y + c) : Nat) : Int) by omega]
            exact this
          · exact HW.out.setCell (p := ⟨w.heap.size, m, none⟩) (Nat.le_refl _) _
        case measure => simp [intOf]
end Go.Proofs.YtmggdnnffdaffaaDoor
