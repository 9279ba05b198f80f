/- compare of digits. -/
import Derived.Test.YtmggdnnffdaffaaDoorDAdd
import Derived.Deep.QuietTactic
import Derived.BigQuiet
namespace Go.Proofs.YtmggdnnffdaffaaDoor
open Go.RowKit

theorem cmp_less {la lb : List Nat} {n k : Nat} (da : Digs la) (ha : la.length = n) (hb : lb.length = n) (hk : k < n) (he : la.take k = lb.take k) (h : la.getD k 0 < lb.getD k 0) : dVal la < dVal lb := by
  have e1 : la = la.take k ++ la.getD k 0 :: la.drop (k + 1) := by rw [← drop_at la k (by omega), List.take_append_drop]
  have e2 : lb = lb.take k ++ lb.getD k 0 :: lb.drop (k + 1) := by rw [← drop_at lb k (by omega), List.take_append_drop]
  rw [e1, e2, ← he]
  exact dVal_lt_of h (da.drop _) (by rw [List.length_drop, List.length_drop]; omega)

set_option maxHeartbeats 1000000 in
set_option maxRecDepth 100000 in
theorem compare_any (la lb : List Nat) (ga gb n : Nat) (w : World) (hA : Blk w ga (nC la)) (hB : Blk w gb (nC lb)) (da : Digs la) (db : Digs lb) (ha : la.length = n) (hb : lb.length = n) (hn : n ≤ 1000000) :
    Calls Tryd.prog 31 #[.slice (some ⟨ga, 0, none⟩) n n, .slice (some ⟨gb, 0, none⟩) n n] w fun e w' => e = .returned (.int .i64 (cmpN (dVal la) (dVal lb))) ∧ Below w.heap.size w w' := by
  have LA := hA.lt
  have LB := hB.lt
  have HA := Lib.hid hA
  have HB := Lib.hid hB
  have HDA := Lib.hid da
  have HDB := Lib.hid db
  have HLA := Lib.hid ha
  have HLB := Lib.hid hb
  clear hA hB da db ha hb
  go_enter Tryd.func31, Tryd.ntmps31
  go_wp2
  go_loopw [8] (fun i wr => ∃ k : Nat, i = .int .i64 k ∧ k ≤ n ∧ la.take k = lb.take k ∧ Below w.heap.size w wr) (fun i _ => n - (intOf i).toNat)
  case atStart => exact ⟨0, rfl, by omega, rfl, Below.refl _ _⟩
  case round =>
    obtain ⟨k, rfl, hk, hE, hbw⟩ := hrel
    have HE := Lib.hid hE
    have HW := Lib.hid hbw
    clear hE hbw
    by_cases hlt : k < n
    · have c1 : wr.cell? ⟨ga, k, none⟩ = some (.int .u8 (la.getD k 0 : Int)) := by
        rw [HW.out.cell (p := ⟨ga, k, none⟩) LA, HA.out.cell, nC_get _ _ (by rw [HLA.out]; omega)]
      have c2 : wr.cell? ⟨gb, k, none⟩ = some (.int .u8 (lb.getD k 0 : Int)) := by
        rw [HW.out.cell (p := ⟨gb, k, none⟩) LB, HB.out.cell, nC_get _ _ (by rw [HLB.out]; omega)]
      have T1 := Lib.hid (take_at la k (by rw [HLA.out]; exact hlt))
      have T2 := Lib.hid (take_at lb k (by rw [HLB.out]; exact hlt))
      have L1 := Lib.hid (cmp_less HDA.out HLA.out HLB.out hlt HE.out)
      have L2 := Lib.hid (cmp_less HDB.out HLB.out HLA.out hlt HE.out.symm)
      have hx := getD_digs HDA.out k
      have hy := getD_digs HDB.out k
      generalize la.getD k 0 = x at *
      generalize lb.getD k 0 = y at *
      have i0 : (0 : Int) ≤ (k : Int) := by omega
      have i1 : (k : Int) < (n : Int) := by omega
      by_cases hxy : x < y
      · have q : decide ((x : Int) < (y : Int)) = true := decide_eq_true (by omega)
        have q1 : decide (x < y) = true := decide_eq_true hxy
        have R : Hid (cmpN (dVal la) (dVal lb) = -1) := if_pos (L1.out hxy)
        go_wp2
        go_quiet (fail)
        go_wp2
        go_ret
        exact ⟨ret_int R.out.symm, below_drewN HW.out _⟩
      · have q : decide ((x : Int) < (y : Int)) = false := decide_eq_false (by omega)
        have q1 : decide (x < y) = false := decide_eq_false hxy
        by_cases hyx : y < x
        · have q2 : decide ((y : Int) < (x : Int)) = true := decide_eq_true (by omega)
          have q3 : decide (y < x) = true := decide_eq_true hyx
          have R : Hid (cmpN (dVal la) (dVal lb) = 1) := by
            have := L2.out hyx
            show _ = _
            unfold cmpN
            rw [if_neg (by omega), if_neg (by omega)]
          go_wp2
          go_quiet (fail)
          go_wp2
          go_quiet (fail)
          go_wp2
          go_ret
          exact ⟨ret_int R.out.symm, below_drewN (below_drewN HW.out _) _⟩
        · have q2 : decide ((y : Int) < (x : Int)) = false := decide_eq_false (by omega)
          have q3 : decide (y < x) = false := decide_eq_false hyx
          have XY := Lib.hid (show x = y by omega)
          go_wp2
          go_quiet (fail)
          go_wp2
          go_quiet (fail)
          go_wp2
          go_roundw
          case rel => exact ⟨k + 1, by go_num, by omega, by rw [T1.out, T2.out, HE.out, XY.out], below_drewN HW.out _⟩
          case measure => simp [intOf]; omega
    · have R : Hid (cmpN (dVal la) (dVal lb) = 0) := by
        have h := HE.out
        rw [List.take_of_length_le (by rw [HLA.out]; omega), List.take_of_length_le (by rw [HLB.out]; omega)] at h
        show _ = _
        unfold cmpN
        rw [h, if_neg (by omega), if_pos rfl]
      go_wp2
      go_ret
      exact ⟨ret_int R.out.symm, HW.out⟩
end Go.Proofs.YtmggdnnffdaffaaDoor
