/- The reference's Range. -/
import Derived.Test.YtebbmelmifffgaaDoorRnA
namespace Go.Proofs.YtebbmelmifffgaaDoor
open Go.RowKit

def ncE (z : Int) : Int := if catB z = true then 0 else 61
theorem rcname_e (z : Int) (w : World) : Calls Tryd.prog 20 #[.int .i64 z] w fun e w' => (∃ t : ByteArray, e = .returned (.tuple #[.string t, .int .i64 (ncE z)])) ∧ Below w.heap.size w w' := by
  unfold ncE
  cases h : catB z with
  | true =>
    have hc := h
    unfold catB at hc
    rw [Bool.and_eq_true] at hc
    have h1 := of_decide_eq_true hc.1
    have h2 := of_decide_eq_true hc.2
    obtain ⟨k, rfl⟩ : ∃ k : Nat, z = (k : Int) := ⟨z.toNat, by omega⟩
    rw [if_pos rfl]
    exact (rcname_in k w (by omega)).mono (fun e w' ⟨a, b⟩ => ⟨⟨_, a⟩, b⟩)
  | false =>
    rw [if_neg (by decide)]
    exact (rcname_out z w h).mono (fun e w' ⟨a, b⟩ => ⟨⟨_, a⟩, b⟩)
/-- The first that is an error. -/
def fstE : List Int → Int
  | [] => 0
  | x :: l => if x = 0 then fstE l else x
theorem fstE_cons (x : Int) (l : List Int) : fstE (x :: l) = if x = 0 then fstE l else x := rfl
set_option maxHeartbeats 2000000 in
set_option maxRecDepth 100000 in
theorem first_errs (g n : Nat) (l : List Int) (w : World) (hl : l.length = n) (hn : n ≤ 1000) (hc : ∀ k, k < n → w.cell? ⟨g, k, none⟩ = some (.int .i64 (l.getD k 0))) :
    Calls Tryd.prog 43 #[.slice (some ⟨g, 0, none⟩) n n] w fun e w' => e = .returned (.int .i64 (fstE l)) ∧ Below w.heap.size w w' := by
  have HC := Lib.hid hc
  have HL := Lib.hid hl
  clear hc hl
  go_enter Tryd.func43, Tryd.ntmps43
  go_wp2
  go_loopw [3] (fun i wr => ∃ k : Nat, i = .int .i64 k ∧ k ≤ n ∧ Hid (fstE (l.drop k) = fstE l) ∧ wr = w) (fun i _ => n - (intOf i).toNat)
  case atStart => exact ⟨0, rfl, by omega, Lib.hid (by simp), rfl⟩
  case round =>
    obtain ⟨k, rfl, hk, HE, hw⟩ := hrel
    have hw2 := hw.symm
    clear hw
    subst hw2
    by_cases hlt : k < n
    · have hlt2 : ((k : Int) < (n : Int)) := by omega
      have c0 := HC.out k hlt
      have ed := drop_cons l k 0 (by rw [HL.out]; exact hlt)
      have HE2 := HE.out
      rw [ed, fstE_cons] at HE2
      generalize l.getD k 0 = x at *
      clear ed HE
      by_cases hx : x = 0
      · subst hx
        rw [if_pos rfl] at HE2
        have HE3 := Lib.hid HE2
        clear HE2
        go_wp2
        go_roundw
        case rel => exact ⟨k + 1, by go_num, by omega, HE3, by trivial⟩
        case measure => simp [intOf]; omega
      · rw [if_neg hx] at HE2
        have HE3 := Lib.hid HE2
        clear HE2
        have qx : (x == 0) = false := beq_eq_false_iff_ne.2 hx
        go_wp2
        go_ret
        exact ⟨ret_intR HE3.out, Below.refl _ _⟩
    · have hlt2 : ¬ ((k : Int) < (n : Int)) := by omega
      go_wp2
      go_ret
      refine ⟨ret_intR ?_, Below.refl _ _⟩
      rw [← HE.out, List.drop_eq_nil_of_le (by rw [HL.out]; omega)]
      rfl

theorem fst_three (x y z : Int) : fstE [ncE x, ncE y, ncE z] = if (catB x && catB y && catB z) = true then 0 else 61 := by
  unfold ncE
  cases catB x <;> cases catB y <;> cases catB z <;> rfl
theorem fst_two (x y : Int) : fstE [ncE x, ncE y] = if (catB x && catB y) = true then 0 else 61 := by
  unfold ncE
  cases catB x <;> cases catB y <;> rfl
theorem first3_any (x y z : Int) (w : World) (g : Nat) (h0 : w.cell? ⟨g, 0, none⟩ = some (.int .i64 (ncE x))) (h1 : w.cell? ⟨g, 1, none⟩ = some (.int .i64 (ncE y))) (h2 : w.cell? ⟨g, 2, none⟩ = some (.int .i64 (ncE z))) :
    Calls Tryd.prog 43 #[.slice (some ⟨g, 0, none⟩) 3 3] w fun e w' => e = .returned (.int .i64 (if (catB x && catB y && catB z) = true then 0 else 61)) ∧ Below w.heap.size w w' := by
  rw [← fst_three]
  refine first_errs g 3 _ w rfl (by decide) (fun k hk => ?_)
  match k, hk with
  | 0, _ => exact h0
  | 1, _ => exact h1
  | 2, _ => exact h2
theorem first2_any (x y : Int) (w : World) (g : Nat) (h0 : w.cell? ⟨g, 0, none⟩ = some (.int .i64 (ncE x))) (h1 : w.cell? ⟨g, 1, none⟩ = some (.int .i64 (ncE y))) :
    Calls Tryd.prog 43 #[.slice (some ⟨g, 0, none⟩) 2 2] w fun e w' => e = .returned (.int .i64 (if (catB x && catB y) = true then 0 else 61)) ∧ Below w.heap.size w w' := by
  rw [← fst_two]
  refine first_errs g 2 _ w rfl (by decide) (fun k hk => ?_)
  match k, hk with
  | 0, _ => exact h0
  | 1, _ => exact h1

set_option maxHeartbeats 8000000 in
set_option maxRecDepth 100000 in
theorem rrange_any (ad : Option Addr) (n cap : Nat) (l : List Rw3) (a b : Int) (w : World) (hR : RowsG w ad n l) :
    Calls Tryd.prog 25 #[.slice ad n cap, .int .i64 a, .int .i64 b] w fun e w' => e = .returned (.tuple #[.int .i64 (rgV n l a b).1, .int .i64 (rgV n l a b).2]) ∧ Below w.heap.size w w' := by
  have HR := Lib.hid hR
  have hmost := hR.most
  have HL := Lib.hid hR.len
  clear hR
  by_cases h256 : 256 < n
  · have HV := Lib.hid (rgV_big (l := l) (a := a) (b := b) h256)
    have q : decide ((256 : Int) < (n : Int)) = true := decide_eq_true (by omega)
    go_enter Tryd.func25, Tryd.ntmps25
    go_wp2
    go_ret2
    exact ⟨ret_rg HV.out, Below.refl _ _⟩
  · have H256 := Lib.hid h256
    have q : decide ((256 : Int) < (n : Int)) = false := decide_eq_false (by omega)
    clear h256
    have DN := Lib.hid (fun (z : Int) wx => rcname_e z wx)
    obtain ⟨y, hy⟩ : ∃ y, y = rgV n l a b := ⟨_, rfl⟩
    rw [← hy]
    have HYY := Lib.hid hy
    clear hy
    go_enter Tryd.func25, Tryd.ntmps25
    go_wp2
    go_loopw [8] (fun i wr => ∃ k : Nat, i = .int .i64 k ∧ k ≤ n ∧ Hid ((l.take k).all Rw3.ok = true) ∧ Hid (Below w.heap.size w wr)) (fun i _ => n - (intOf i).toNat)
    case atStart => exact ⟨0, rfl, by omega, Lib.hid rfl, Lib.hid (Below.refl _ _)⟩
    case round =>
      obtain ⟨k, rfl, hk, HE, HW⟩ := hrel
      have hz := HW.out.size
      by_cases hlt : k < n
      · have hlt2 : ((k : Int) < (n : Int)) := by omega
        obtain ⟨g, off, had, hg, hA⟩ := (HR.out.keep HW.out).at_ (by omega)
        obtain ⟨c0, c1, c2⟩ := hA k hlt
        have hl : k < l.length := by rw [HL.out]; exact hlt
        have ea := allR_take (p := Rw3.ok) Rw3.nil hl
        rw [HE.out, Bool.true_and] at ea
        generalize l.getD k Rw3.nil = x at *
        have EA := Lib.hid ea
        clear hA ea
        subst had
        obtain ⟨xf, xt, xc⟩ := x
        simp only at c0 c1 c2
        have hgw : g < wr.heap.size := Nat.lt_of_lt_of_le hg (Nat.le_refl _)
        have K0 := Lib.hid c0
        have K1 := Lib.hid c1
        have K2 := Lib.hid c2
        go_wp2_with fail
        (with_reducible refine (DN.out xf _).mono ?_)
        rintro e v1 ⟨⟨t1, rfl⟩, hb1⟩
        have H1 := Lib.hid (HW.out.trans (hb1.mono HW.out.size))
        have K0 := Lib.hid ((hb1.cell (p := ⟨g, off + k * 3, none⟩) (by show g < _; omega)).trans K0.out)
        have K1 := Lib.hid ((hb1.cell (p := ⟨g, off + k * 3 + 1, none⟩) (by show g < _; omega)).trans K1.out)
        have K2 := Lib.hid ((hb1.cell (p := ⟨g, off + k * 3 + 2, none⟩) (by show g < _; omega)).trans K2.out)
        have hgw : g < v1.heap.size := Nat.lt_of_lt_of_le hgw hb1.size
        clear c0 c1 c2 hb1
        have c0 := K0.out
        have c1 := K1.out
        have c2 := K2.out
        go_wp2_with fail
        (with_reducible refine (DN.out xt _).mono ?_)
        rintro e v2 ⟨⟨t2, rfl⟩, hb2⟩
        have H2 := Lib.hid (H1.out.trans (hb2.mono H1.out.size))
        have K0 := Lib.hid ((hb2.cell (p := ⟨g, off + k * 3, none⟩) (by show g < _; omega)).trans K0.out)
        have K1 := Lib.hid ((hb2.cell (p := ⟨g, off + k * 3 + 1, none⟩) (by show g < _; omega)).trans K1.out)
        have K2 := Lib.hid ((hb2.cell (p := ⟨g, off + k * 3 + 2, none⟩) (by show g < _; omega)).trans K2.out)
        have hgw : g < v2.heap.size := Nat.lt_of_lt_of_le hgw hb2.size
        clear c0 c1 c2 hb2
        have c0 := K0.out
        have c1 := K1.out
        have c2 := K2.out
        go_wp2_with fail
        (with_reducible refine (DN.out xc _).mono ?_)
        rintro e v3 ⟨⟨t3, rfl⟩, hb3⟩
        have H3 := Lib.hid (H2.out.trans (hb3.mono H2.out.size))
        clear c0 c1 c2 hb3 K0 K1 K2
        go_wp2_with fail
        obtain ⟨V, hV⟩ : ∃ V, V = v3.alloc (.cells #[.int .i64 (ncE xf), .int .i64 (ncE xt), .int .i64 (ncE xc)] 26) := ⟨_, rfl⟩
        rw [← hV]
        have HBV : Hid (Below w.heap.size w V) := Lib.hid (by rw [hV]; exact H3.out.alloc H3.out.size _)
        have DF := Lib.hid (first3_any xf xt xc V v3.heap.size (by rw [hV]; simp) (by rw [hV]; simp) (by rw [hV]; simp))
        clear hV
        cases hq : (catB xf && catB xt && catB xc) with
        | true =>
          rw [hq, if_pos rfl] at DF
          have EB : Hid ((l.take (k + 1)).all Rw3.ok = true) := Lib.hid (by rw [EA.out]; exact hq)
          clear EA HE hq
          (with_reducible refine DF.out.mono ?_)
          rintro e v5 ⟨rfl, hb5⟩
          have H5 := Lib.hid (HBV.out.trans (hb5.mono HBV.out.size))
          clear hb5
          go_wp2
          go_roundw
          case rel => exact ⟨k + 1, by go_num, by omega, EB, H5⟩
          case measure => simp [intOf]; omega
        | false =>
          rw [hq, if_neg (by decide)] at DF
          have EF : Hid (l.all Rw3.ok = false) := Lib.hid (allR_false hl (by rw [EA.out]; exact hq))
          clear EA HE hq
          (with_reducible refine DF.out.mono ?_)
          rintro e v5 ⟨rfl, hb5⟩
          have H5 := Lib.hid (HBV.out.trans (hb5.mono HBV.out.size))
          clear hb5
          go_wp2
          go_ret2
          exact ⟨ret_rg (HYY.out.trans (rgV_bad H256.out EF.out)), H5.out⟩
      · have hlt2 : ¬ ((k : Int) < (n : Int)) := by omega
        have EF : Hid (l.all Rw3.ok = true) := Lib.hid (by
          have := HE.out
          rwa [List.take_of_length_le (by rw [HL.out]; omega)] at this)
        clear HE
        go_wp2_with fail
        (with_reducible refine (DN.out a _).mono ?_)
        rintro e v1 ⟨⟨t1, rfl⟩, hb1⟩
        have H1 := Lib.hid (HW.out.trans (hb1.mono HW.out.size))
        clear hb1
        go_wp2_with fail
        (with_reducible refine (DN.out b _).mono ?_)
        rintro e v2 ⟨⟨t2, rfl⟩, hb2⟩
        have H2 := Lib.hid (H1.out.trans (hb2.mono H1.out.size))
        clear hb2
        go_wp2_with fail
        obtain ⟨V, hV⟩ : ∃ V, V = v2.alloc (.cells #[.int .i64 (ncE a), .int .i64 (ncE b)] 26) := ⟨_, rfl⟩
        rw [← hV]
        have HBV : Hid (Below w.heap.size w V) := Lib.hid (by rw [hV]; exact H2.out.alloc H2.out.size _)
        have DF := Lib.hid (first2_any a b V v2.heap.size (by rw [hV]; simp) (by rw [hV]; simp))
        clear hV
        cases hq : (catB a && catB b) with
        | false =>
          rw [hq, if_neg (by decide)] at DF
          have HV : Hid (y = (0, 61)) := Lib.hid (by
            cases qa : catB a with
            | false => exact HYY.out.trans (rgV_a H256.out EF.out qa)
            | true =>
              rw [qa, Bool.true_and] at hq
              exact HYY.out.trans (rgV_b H256.out EF.out qa hq))
          clear hq
          (with_reducible refine DF.out.mono ?_)
          rintro e v5 ⟨rfl, hb5⟩
          have H5 := Lib.hid (HBV.out.trans (hb5.mono HBV.out.size))
          clear hb5
          go_wp2
          go_ret2
          exact ⟨ret_rg HV.out, H5.out⟩
        | true =>
          rw [hq, if_pos rfl] at DF
          rw [Bool.and_eq_true] at hq
          obtain ⟨qa, qb⟩ := hq
          have QA := Lib.hid qa
          have QB := Lib.hid qb
          clear qa qb
          (with_reducible refine DF.out.mono ?_)
          rintro e v5 ⟨rfl, hb5⟩
          have H5 := Lib.hid (HBV.out.trans (hb5.mono HBV.out.size))
          clear hb5
          go_wp2
          go_loopw [21] (fun i wy => ∃ j : Nat, i = .int .i64 j ∧ j ≤ n ∧ Hid (∀ i, i < j → Rw3.is a b (l.getD i Rw3.nil) = false) ∧ Hid (Below w.heap.size w wy)) (fun i _ => n - (intOf i).toNat)
          case atStart => exact ⟨0, rfl, by omega, Lib.hid (fun i hi => absurd hi (Nat.not_lt_zero _)), H5⟩
          case round =>
            obtain ⟨j, rfl, hj, HJ, HY⟩ := hrel
            rename World => wy
            have hy := HY.out.size
            by_cases hjl : j < n
            · have hjl2 : ((j : Int) < (n : Int)) := by omega
              obtain ⟨g, off, had, hg, hA⟩ := (HR.out.keep HY.out).at_ (by omega)
              obtain ⟨c0, c1, c2⟩ := hA j hjl
              have hl : j < l.length := by rw [HL.out]; exact hjl
              obtain ⟨x, hx⟩ : ∃ x, x = l.getD j Rw3.nil := ⟨_, rfl⟩
              rw [← hx] at c0 c1 c2
              have HXX := Lib.hid hx
              clear hA hx
              subst had
              obtain ⟨xf, xt, xc⟩ := x
              simp only at c0 c1 c2
              cases q1 : (xf == a) with
              | false =>
                have HN : Hid (Rw3.is a b (l.getD j Rw3.nil) = false) := Lib.hid (by rw [← HXX.out]; unfold Rw3.is; rw [q1]; rfl)
                go_wp2
                go_roundw
                case rel => exact ⟨j + 1, by go_num, by omega, Lib.hid (fun i hi => by
                  by_cases e : i = j
                  · rw [e]; exact HN.out
                  · exact HJ.out i (by omega)), HY⟩
                case measure => simp [intOf]; omega
              | true =>
                cases q2 : (xt == b) with
                | false =>
                  have HN : Hid (Rw3.is a b (l.getD j Rw3.nil) = false) := Lib.hid (by rw [← HXX.out]; unfold Rw3.is; rw [q1, q2]; rfl)
                  go_wp2
                  go_roundw
                  case rel => exact ⟨j + 1, by go_num, by omega, Lib.hid (fun i hi => by
                    by_cases e : i = j
                    · rw [e]; exact HN.out
                    · exact HJ.out i (by omega)), HY⟩
                  case measure => simp [intOf]; omega
                | true =>
                  have HN : Hid (y = (xc, 0)) := Lib.hid ((HYY.out.trans (rgV_hit H256.out EF.out QA.out QB.out (findIdx_hit Rw3.nil hl (by rw [← HXX.out]; unfold Rw3.is; rw [q1, q2]; rfl) HJ.out) hl)).trans (by rw [← HXX.out]))
                  go_wp2
                  go_ret2
                  exact ⟨ret_rg HN.out, HY.out⟩
            · have hjl2 : ¬ ((j : Int) < (n : Int)) := by omega
              have HN : Hid (y = (b, 0)) := Lib.hid (HYY.out.trans (rgV_no H256.out EF.out QA.out QB.out (findIdx_no Rw3.nil (fun i hi => HJ.out i (by rw [HL.out] at hi; omega)))))
              go_wp2
              go_ret2
              exact ⟨ret_rg HN.out, HY.out⟩
end Go.Proofs.YtebbmelmifffgaaDoor
