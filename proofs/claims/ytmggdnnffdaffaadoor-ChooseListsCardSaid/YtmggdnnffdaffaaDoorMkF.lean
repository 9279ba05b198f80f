/- Merged: RcA, RcB, RcC, RcD, EnB, EnC, EnA, EnD, EnE. -/
import Derived.Test.YtmggdnnffdaffaaDoorRuB
import Derived.Test.YtmggdnnffdaffaaDoorMkE
import Derived.Deep.RegionHeld3
import Derived.Deep.RegionWith
import Derived.Deep.LoopGhost
import Derived.Test.YtmggdnnffdaffaaDoorOpG
import Derived.Test.YtmggdnnffdaffaaDoorMkD
namespace Go.Proofs.YtmggdnnffdaffaaDoor
section
open Go.RowKit

/-- What is wrong with spans, from the k-th on. -/
def spE : List (ByteArray × ByteArray) → Nat → Int
  | [], _ => 0
  | x :: l, k => if k = 64 then 5 else if spanB x = true then spE l (k + 1) else 50
/-- What is wrong with a relation. -/
def relE (x : Rl) : Int := if opB x.op = true ∧ (x.mo.toList.isEmpty = true ∨ moB x.mo = true) ∧ x.n ≠ 0 then spE x.l 0 else 50
/-- What is wrong with a list of relations, when so many stand ahead; how many stand behind. -/
def andE : List Rl → Nat → Int × Nat
  | [], c => (0, c)
  | x :: l, c => if c = 64 then (5, c) else if relE x = 0 then andE l (c + 1) else (relE x, c)
/-- What is wrong with lists of relations. -/
def orE : List An → Nat → Int
  | [], _ => 0
  | a :: l, c => if a.n = 0 then 50 else if (andE a.l c).1 = 0 then orE l (andE a.l c).2 else (andE a.l c).1
theorem spE_range (l : List (ByteArray × ByteArray)) (k : Nat) : spE l k = 0 ∨ spE l k = 5 ∨ spE l k = 50 := by
  induction l generalizing k with
  | nil => exact .inl rfl
  | cons x l ih =>
    unfold spE
    split
    · exact .inr (.inl rfl)
    · split
      · exact ih _
      · exact .inr (.inr rfl)
theorem relE_range (x : Rl) : relE x = 0 ∨ relE x = 5 ∨ relE x = 50 := by
  unfold relE
  split
  · exact spE_range _ _
  · exact .inr (.inr rfl)
theorem andE_count (l : List Rl) (c : Nat) (hc : c ≤ 64) : (andE l c).2 ≤ 64 := by
  induction l generalizing c with
  | nil => exact hc
  | cons x l ih =>
    unfold andE
    split
    · exact hc
    · split
      · exact ih _ (by omega)
      · exact hc
end
section
open Go.RowKit

theorem ret_intR {a b : Int} (h : a = b) : Ending.returned (.int .i64 a) = .returned (.int .i64 b) := by rw [h]
theorem spE_cons (x : ByteArray × ByteArray) (l : List (ByteArray × ByteArray)) (k : Nat) : spE (x :: l) k = if k = 64 then 5 else if spanB x = true then spE l (k + 1) else 50 := rfl
theorem empty_text {s : ByteArray} (h : s.toList.isEmpty = true) : s = ⟨#[]⟩ := by
  have h1 : s.size = 0 := by
    rw [List.isEmpty_iff] at h
    exact toList_nil.1 h
  apply ByteArray.ext
  exact Array.eq_empty_of_size_eq_zero h1

set_option maxHeartbeats 8000000 in
set_option maxRecDepth 100000 in
theorem rrel_any (x : Rl) (w : World) (hL : SpnG w x.ad x.n x.l) (hm : x.mo.size ≤ 140737488355328) :
    Calls Tryd.prog 50 #[x.v] w fun e w' => e = .returned (.int .i64 (relE x)) ∧ Below w.heap.size w w' := by
  obtain ⟨op, mo, no, wi, ad, n, cap, l⟩ := x
  have HS := Lib.hid hL
  have hmost := hL.most
  have HL := Lib.hid hL.len
  simp only at hmost HS HL hm
  have D0 := Lib.hid (fun wx => isOperand_any op wx)
  have D1 := Lib.hid (fun wx => isModulus_any mo wx hm)
  have hb0 : Below w.heap.size w (w.alloc (.cells #[.string op, .string mo, .bool no, .bool wi, .slice ad n cap] 40)) := (Below.refl _ w).alloc (Nat.le_refl _) _
  have X0 := Lib.hid (bq5_new w (.string op) (.string mo) (.bool no) (.bool wi) (.slice ad n cap) 40)
  have HB0 := Lib.hid hb0
  unfold Rl.v relE
  simp only
  clear hL hb0 hm
  cases q0 : opB op with
  | false =>
    rw [q0] at D0
    rw [if_neg (fun h => by cases h.1)]
    obtain ⟨e0, e1, e2, e3, e4, -⟩ := X0.out
    go_enter Tryd.func50, Tryd.ntmps50
    go_wp2_with fail
    (with_reducible refine (D0.out _).mono ?_)
    rintro e w2 ⟨rfl, rfl⟩
    go_wp2
    go_ret
    exact ⟨rfl, HB0.out⟩
  | true =>
    rw [q0] at D0
    cases q1 : mo.toList.isEmpty with
    | true =>
      have em := empty_text q1
      subst em
      clear q1
      by_cases h0 : n = 0
      · subst h0
        rw [if_neg (fun h => h.2.2 rfl)]
        obtain ⟨e0, e1, e2, e3, e4, -⟩ := X0.out
        go_enter Tryd.func50, Tryd.ntmps50
        go_wp2_with fail
        (with_reducible refine (D0.out _).mono ?_)
        rintro e w2 ⟨rfl, rfl⟩
        go_wp2
        go_ret
        exact ⟨rfl, HB0.out⟩
      · have n0 : ((n : Int) == 0) = false := beq_eq_false_iff_ne.2 (by omega)
        rw [if_pos ⟨rfl, .inl rfl, h0⟩]
        obtain ⟨e0, e1, e2, e3, e4, -⟩ := X0.out
        go_enter Tryd.func50, Tryd.ntmps50
        go_wp2_with fail
        (with_reducible refine (D0.out _).mono ?_)
        rintro e w2 ⟨rfl, rfl⟩
        go_wp2
        have HBW : Hid (Below w.heap.size w (w.alloc (.cells #[.string op, .string ⟨#[]⟩, .bool no, .bool wi, .slice ad n cap] 40))) := HB0
        generalize (w.alloc (.cells #[.string op, .string ⟨#[]⟩, .bool no, .bool wi, .slice ad n cap] 40)) = Wm at *

        go_loopw [29] (fun i wr => ∃ k : Nat, i = .int .i64 k ∧ k ≤ n ∧ Hid (spE (l.drop k) k = spE l 0) ∧ Below Wm.heap.size Wm wr) (fun i _ => n - (intOf i).toNat)
        case atStart => exact ⟨0, rfl, by omega, Lib.hid (by simp), Below.refl _ _⟩
        case round =>
          obtain ⟨k, rfl, hk, HE, hbw⟩ := hrel
          have HW := Lib.hid hbw
          have hz := hbw.size
          clear hbw
          have HWW := Lib.hid (HBW.out.trans (HW.out.mono HBW.out.size))
          by_cases hlt : k < n
          · have hlt2 : ((k : Int) < (n : Int)) := by omega
            obtain ⟨g, off, had, hg, hA⟩ := (HS.out.keep HWW.out).at_ (by omega)
            obtain ⟨c0, c1⟩ := hA k (by rw [HL.out]; exact hlt)
            have hsz := HS.out.sz k
            have ed := drop_cons l k dq (by rw [HL.out]; exact hlt)
            have HE2 := HE.out
            rw [ed, spE_cons] at HE2
            generalize l.getD k dq = x at *
            obtain ⟨lo, hi⟩ := x
            have DS := Lib.hid (fun wx => isSpan_any lo hi wx hsz.1 hsz.2)
            simp only at c0 c1
            clear hA hsz ed
            subst had
            by_cases h64 : k = 64
            · rw [if_pos h64] at HE2
              have HE3 := Lib.hid HE2
              subst h64
              clear HE2
              go_wp2
              go_ret
              exact ⟨ret_intR HE3.out, HWW.out.alloc HWW.out.size _⟩
            · rw [if_neg h64] at HE2
              have q64 : ((k : Int) == 64) = false := beq_eq_false_iff_ne.2 (by omega)
              obtain ⟨s0, s1⟩ := two_box wr (.string lo) (.string hi) 76
              have hbV : Below wr.heap.size wr (wr.alloc (.cells #[.string lo, .string hi] 76)) := (Below.refl _ _).alloc (Nat.le_refl _) _
              have HBV := Lib.hid hbV
              clear hbV
              cases hq : spanB (lo, hi) with
              | true =>
                rw [hq] at DS
                rw [hq, if_pos rfl] at HE2
                have HE3 := Lib.hid HE2
                clear HE2
                go_wp2_with fail
                (with_reducible refine (DS.out _).mono ?_)
                rintro e w5 ⟨rfl, hb5⟩
                have H5 := Lib.hid (HW.out.trans ((HBV.out.trans (hb5.mono HBV.out.size)).mono hz))
                clear hb5 s0 s1
                go_wp2
                go_roundw
                case rel => exact ⟨k + 1, by go_num, by omega, HE3, H5.out⟩
                case measure => simp [intOf]; omega
              | false =>
                rw [hq] at DS
                rw [hq, if_neg (by decide)] at HE2
                have HE3 := Lib.hid HE2
                clear HE2
                go_wp2_with fail
                (with_reducible refine (DS.out _).mono ?_)
                rintro e w5 ⟨rfl, hb5⟩
                have H5 := Lib.hid (HWW.out.trans ((HBV.out.trans (hb5.mono HBV.out.size)).mono HWW.out.size))
                clear hb5 s0 s1
                go_wp2
                go_ret
                exact ⟨ret_intR HE3.out, H5.out⟩
          · have hlt2 : ¬ ((k : Int) < (n : Int)) := by omega
            go_wp2
            go_ret
            refine ⟨ret_intR ?_, HWW.out⟩
            rw [← HE.out, List.drop_eq_nil_of_le (by rw [HL.out]; omega)]
            rfl
    | false =>
      have m1 : ¬ mo.toList = [] := fun h => by rw [h] at q1; cases q1
      cases q2 : moB mo with
      | false =>
        rw [q2] at D1
        rw [if_neg (fun h => by rcases h.2.1 with h | h <;> cases h)]
        obtain ⟨e0, e1, e2, e3, e4, -⟩ := X0.out
        go_enter Tryd.func50, Tryd.ntmps50
        go_wp2_with fail
        (with_reducible refine (D0.out _).mono ?_)
        rintro e w2 ⟨rfl, rfl⟩
        go_wp2_with fail
        (with_reducible refine (D1.out _).mono ?_)
        rintro e w3 ⟨rfl, hb3⟩
        have HB3 := Lib.hid (HB0.out.trans (hb3.mono HB0.out.size))
        have X3 := Lib.hid (X0.out.keep hb3)
        clear hb3 e0 e1 e2 e3 e4
        obtain ⟨e0, e1, e2, e3, e4, -⟩ := X3.out
        go_wp2
        go_ret
        exact ⟨rfl, HB3.out⟩
      | true =>
        rw [q2] at D1
        by_cases h0 : n = 0
        · subst h0
          rw [if_neg (fun h => h.2.2 rfl)]
          obtain ⟨e0, e1, e2, e3, e4, -⟩ := X0.out
          go_enter Tryd.func50, Tryd.ntmps50
          go_wp2_with fail
          (with_reducible refine (D0.out _).mono ?_)
          rintro e w2 ⟨rfl, rfl⟩
          go_wp2_with fail
          (with_reducible refine (D1.out _).mono ?_)
          rintro e w3 ⟨rfl, hb3⟩
          have HB3 := Lib.hid (HB0.out.trans (hb3.mono HB0.out.size))
          have X3 := Lib.hid (X0.out.keep hb3)
          clear hb3 e0 e1 e2 e3 e4
          obtain ⟨e0, e1, e2, e3, e4, -⟩ := X3.out
          go_wp2
          go_ret
          exact ⟨rfl, HB3.out⟩
        · have n0 : ((n : Int) == 0) = false := beq_eq_false_iff_ne.2 (by omega)
          rw [if_pos ⟨rfl, .inr rfl, h0⟩]
          obtain ⟨e0, e1, e2, e3, e4, -⟩ := X0.out
          go_enter Tryd.func50, Tryd.ntmps50
          go_wp2_with fail
          (with_reducible refine (D0.out _).mono ?_)
          rintro e w2 ⟨rfl, rfl⟩
          go_wp2_with fail
          (with_reducible refine (D1.out _).mono ?_)
          rintro e w3 ⟨rfl, hb3⟩
          have HB3 := Lib.hid (HB0.out.trans (hb3.mono HB0.out.size))
          have X3 := Lib.hid (X0.out.keep hb3)
          clear hb3 e0 e1 e2 e3 e4
          obtain ⟨e0, e1, e2, e3, e4, -⟩ := X3.out
          go_wp2
          have HBW : Hid (Below w.heap.size w w3) := HB3
          generalize w3 = Wm at *

          go_loopw [29] (fun i wr => ∃ k : Nat, i = .int .i64 k ∧ k ≤ n ∧ Hid (spE (l.drop k) k = spE l 0) ∧ Below Wm.heap.size Wm wr) (fun i _ => n - (intOf i).toNat)
          case atStart => exact ⟨0, rfl, by omega, Lib.hid (by simp), Below.refl _ _⟩
          case round =>
            obtain ⟨k, rfl, hk, HE, hbw⟩ := hrel
            have HW := Lib.hid hbw
            have hz := hbw.size
            clear hbw
            have HWW := Lib.hid (HBW.out.trans (HW.out.mono HBW.out.size))
            by_cases hlt : k < n
            · have hlt2 : ((k : Int) < (n : Int)) := by omega
              obtain ⟨g, off, had, hg, hA⟩ := (HS.out.keep HWW.out).at_ (by omega)
              obtain ⟨c0, c1⟩ := hA k (by rw [HL.out]; exact hlt)
              have hsz := HS.out.sz k
              have ed := drop_cons l k dq (by rw [HL.out]; exact hlt)
              have HE2 := HE.out
              rw [ed, spE_cons] at HE2
              generalize l.getD k dq = x at *
              obtain ⟨lo, hi⟩ := x
              have DS := Lib.hid (fun wx => isSpan_any lo hi wx hsz.1 hsz.2)
              simp only at c0 c1
              clear hA hsz ed
              subst had
              by_cases h64 : k = 64
              · rw [if_pos h64] at HE2
                have HE3 := Lib.hid HE2
                subst h64
                clear HE2
                go_wp2
                go_ret
                exact ⟨ret_intR HE3.out, HWW.out.alloc HWW.out.size _⟩
              · rw [if_neg h64] at HE2
                have q64 : ((k : Int) == 64) = false := beq_eq_false_iff_ne.2 (by omega)
                obtain ⟨s0, s1⟩ := two_box wr (.string lo) (.string hi) 76
                have hbV : Below wr.heap.size wr (wr.alloc (.cells #[.string lo, .string hi] 76)) := (Below.refl _ _).alloc (Nat.le_refl _) _
                have HBV := Lib.hid hbV
                clear hbV
                cases hq : spanB (lo, hi) with
                | true =>
                  rw [hq] at DS
                  rw [hq, if_pos rfl] at HE2
                  have HE3 := Lib.hid HE2
                  clear HE2
                  go_wp2_with fail
                  (with_reducible refine (DS.out _).mono ?_)
                  rintro e w5 ⟨rfl, hb5⟩
                  have H5 := Lib.hid (HW.out.trans ((HBV.out.trans (hb5.mono HBV.out.size)).mono hz))
                  clear hb5 s0 s1
                  go_wp2
                  go_roundw
                  case rel => exact ⟨k + 1, by go_num, by omega, HE3, H5.out⟩
                  case measure => simp [intOf]; omega
                | false =>
                  rw [hq] at DS
                  rw [hq, if_neg (by decide)] at HE2
                  have HE3 := Lib.hid HE2
                  clear HE2
                  go_wp2_with fail
                  (with_reducible refine (DS.out _).mono ?_)
                  rintro e w5 ⟨rfl, hb5⟩
                  have H5 := Lib.hid (HWW.out.trans ((HBV.out.trans (hb5.mono HBV.out.size)).mono HWW.out.size))
                  clear hb5 s0 s1
                  go_wp2
                  go_ret
                  exact ⟨ret_intR HE3.out, H5.out⟩
            · have hlt2 : ¬ ((k : Int) < (n : Int)) := by omega
              go_wp2
              go_ret
              refine ⟨ret_intR ?_, HWW.out⟩
              rw [← HE.out, List.drop_eq_nil_of_le (by rw [HL.out]; omega)]
              rfl
end
section
open Go.RowKit

theorem andE_cons (x : Rl) (l : List Rl) (c : Nat) : andE (x :: l) c = if c = 64 then (5, c) else if relE x = 0 then andE l (c + 1) else (relE x, c) := rfl
theorem orE_cons (a : An) (l : List An) (c : Nat) : orE (a :: l) c = if a.n = 0 then 50 else if (andE a.l c).1 = 0 then orE l (andE a.l c).2 else (andE a.l c).1 := rfl

set_option maxHeartbeats 8000000 in
set_option maxRecDepth 100000 in
theorem rlists_any (ad : Option Addr) (n cap : Nat) (l : List An) (w : World) (hO : OrG w ad n l) :
    Calls Tryd.prog 38 #[.slice ad n cap] w fun e w' => e = .returned (.int .i64 (orE l 0)) ∧ Below w.heap.size w w' := by
  have HO := Lib.hid hO
  have hmost := hO.most
  have HL := Lib.hid hO.len
  clear hO
  go_enter Tryd.func38, Tryd.ntmps38
  go_wp2
  go_loopg [3, 11] n (fun g s3 s11 wr => ∃ k c : Nat, k + g = n ∧ s11 = .int .i64 k ∧ s3 = .int .i64 c ∧ c ≤ 64 ∧ Aside (orE (l.drop k) c = orE l 0) ∧ Aside (Below w.heap.size w wr))
  case atStart => exact ⟨0, 0, by omega, rfl, rfl, by omega, by show _ = _; simp, Below.refl _ _⟩
  case round =>
    obtain ⟨k, c, hk, rfl, rfl, hc, HE, HW⟩ := hrel
    have hz := HW.out.size
    cases gk with
    | zero =>
      have hkz : ¬ ((k : Int) < (n : Int)) := by omega
      go_wp2
      go_ret
      refine ⟨ret_intR ?_, HW.out⟩
      rw [← HE.out, List.drop_eq_nil_of_le (by rw [HL.out]; omega)]
      rfl
    | succ g =>
      have hkz : ((k : Int) < (n : Int)) := by omega
      obtain ⟨gb, off, had, hg, hA⟩ := (HO.out.keep HW.out).at_ (by omega)
      have hkl : k < l.length := by rw [HL.out]; omega
      obtain ⟨d0, dA⟩ := hA k (by omega)
      have ed := drop_cons l k An.nil hkl
      have HE2 := HE.out
      rw [ed, orE_cons] at HE2
      generalize l.getD k An.nil = y at *
      obtain ⟨ya, yn, yc, yl⟩ := y
      unfold An.v at d0
      simp only at *
      have DA := Lib.hid dA
      clear hA dA ed
      subst had
      by_cases h0 : yn = 0
      · rw [if_pos h0] at HE2
        have HE3 := Lib.hid HE2
        clear HE2
        subst h0
        go_wp2
        go_ret
        exact ⟨ret_intR HE3.out, HW.out⟩
      · rw [if_neg h0] at HE2
        have HE3 := Lib.hid HE2
        clear HE2
        have n0 : ((yn : Int) == 0) = false := beq_eq_false_iff_ne.2 (by omega)
        go_wp2
        clear d0
        have hm2 := DA.out.most
        have HL2 := Lib.hid DA.out.len
        have h64 := Lib.hid (andE_count yl c hc)
        rename World => wo
        go_loopg [3, 20] yn (fun g2 s3 s26 wy => ∃ j c2 : Nat, j + g2 = yn ∧ s26 = .int .i64 j ∧ s3 = .int .i64 c2 ∧ c2 ≤ 64 ∧ Aside (andE (yl.drop j) c2 = andE yl c) ∧ Aside (Below wo.heap.size wo wy))
        case atStart => exact ⟨0, c, by omega, rfl, rfl, hc, by show _ = _; simp, Below.refl _ _⟩
        case round =>
          obtain ⟨j, c2, hj, rfl, rfl, hc2, HJ, HY⟩ := hrel
          have hy := HY.out.size
          have HN := Lib.hid (HW.out.trans (HY.out.mono HW.out.size))
          cases gk with
          | zero =>
            have hjz : ¬ ((j : Int) < (yn : Int)) := by omega
            have e1 : andE yl c = (0, c2) := by
              rw [← HJ.out, List.drop_eq_nil_of_le (by rw [HL2.out]; omega)]
              rfl
            have HE4 := HE3.out
            rw [e1, if_pos rfl] at HE4
            have HE5 := Lib.hid HE4
            clear HE4 e1
            go_wp2
            go_roundg g
            case measure => omega
            case rel => exact ⟨k + 1, c2, by omega, by go_num, rfl, hc2, HE5.out, HN.out⟩
          | succ g2 =>
            have hjz : ((j : Int) < (yn : Int)) := by omega
            obtain ⟨gc, of2, had2, hg2, hA2⟩ := (DA.out.keep HY.out).at_ h0
            have hjl : j < yl.length := by rw [HL2.out]; omega
            have hR := hA2 j (by omega)
            have ed := drop_cons yl j Rl.nil hjl
            have HJ2 := HJ.out
            rw [ed, andE_cons] at HJ2
            generalize yl.getD j Rl.nil = x at *
            have D := Lib.hid (fun wx (hx : Below wr.heap.size wr wx) => rrel_any x wx (hR.li.keep hx) hR.ms)
            obtain ⟨r0, r1, r2, r3, r4, -, -⟩ := hR
            obtain ⟨v, hv⟩ : ∃ v, v = relE x := ⟨_, rfl⟩
            rw [← hv] at HJ2 D
            clear hA2 ed hv
            subst had2
            obtain ⟨op, mo, no, wi, xa, xn, xc, xl⟩ := x
            unfold Rl.v at D
            simp only at *
            by_cases h64 : c2 = 64
            · rw [if_pos h64] at HJ2
              have HE4 := HE3.out
              rw [← HJ2, if_neg (by simp)] at HE4
              have HE5 := Lib.hid HE4
              clear HE4 HJ2
              subst h64
              go_wp2
              go_ret
              exact ⟨ret_intR HE5.out, HN.out.alloc HN.out.size _⟩
            · rw [if_neg h64] at HJ2
              have q64 : ((c2 : Int) == 64) = false := beq_eq_false_iff_ne.2 (by omega)
              have hbV : Below wr.heap.size wr (wr.alloc (.cells #[.string op, .string mo, .bool no, .bool wi, .slice xa xn xc] 40)) := (Below.refl _ _).alloc (Nat.le_refl _) _
              have X1 := Lib.hid (bq5_new wr (.string op) (.string mo) (.bool no) (.bool wi) (.slice xa xn xc) 40)
              have HBV := Lib.hid hbV
              obtain ⟨e0, e1, e2, e3, e4, -⟩ := X1.out
              clear hbV
              by_cases hq : v = 0
              · subst hq
                rw [if_pos rfl] at HJ2
                have HJ3 := Lib.hid HJ2
                clear HJ2
                go_wp2_with fail
                (with_reducible refine (D.out _ HBV.out).mono ?_)
                rintro e w5 ⟨rfl, hb5⟩
                have H5 := Lib.hid (HY.out.trans ((HBV.out.trans (hb5.mono HBV.out.size)).mono hy))
                clear hb5 e0 e1 e2 e3 e4
                go_wp2
                go_roundg g2
                case measure => omega
                case rel => exact ⟨j + 1, c2 + 1, by omega, by go_num, by go_num, by omega, HJ3.out, H5.out⟩
              · rw [if_neg hq] at HJ2
                have qv : (v == 0) = false := beq_eq_false_iff_ne.2 hq
                have HE4 := HE3.out
                rw [← HJ2, if_neg hq] at HE4
                have HE5 := Lib.hid HE4
                clear HE4 HJ2
                go_wp2_with fail
                (with_reducible refine (D.out _ HBV.out).mono ?_)
                rintro e w5 ⟨rfl, hb5⟩
                have H5 := Lib.hid (HN.out.trans ((HBV.out.trans (hb5.mono HBV.out.size)).mono HN.out.size))
                clear hb5 e0 e1 e2 e3 e4
                go_wp2
                go_ret
                exact ⟨ret_intR HE5.out, H5.out⟩
end
section
open Go.RowKit

/-- The contract of checkSamples. -/
def CkS (p : Bool) (x : Sg) (c : Int) : Prop := ∀ wx : World, SpnG wx x.ad x.n x.l → Calls Tryd.prog 39 #[x.v, .bool p] wx fun e w' => e = .returned (.int .i64 c) ∧ Below wx.heap.size wx w'
/-- What is wrong with a rule, whose samples have a and b wrong. -/
def ruE (x : Ru) (a b : Int) : Int := if orE x.l 0 ≠ 0 then orE x.l 0 else if a ≠ 0 then a else if b ≠ 0 then b else if (x.mi && decide (x.si.n = 0)) = true then 50 else if (x.md && decide (x.sd.n = 0)) = true then 50 else 0

set_option maxHeartbeats 1000000 in
set_option maxRecDepth 100000 in
theorem samples_none (p : Bool) (ad : Option Addr) (cap : Nat) (w : World) : Calls Tryd.prog 39 #[.slice ad 0 cap, .bool p] w fun e w' => e = .returned (.int .i64 0) ∧ Below w.heap.size w w' := by
  go_enter Tryd.func39, Tryd.ntmps39
  go_wp2
  go_loopw [9] (fun i wr => i = .int .i64 0 ∧ wr = w) (fun _ _ => 0)
  case atStart => exact ⟨rfl, rfl⟩
  case round =>
    obtain ⟨rfl, hw⟩ := hrel
    have hw2 := hw.symm
    clear hw
    subst hw2
    go_wp2
    go_ret
    exact ⟨rfl, Below.refl _ _⟩

set_option maxHeartbeats 8000000 in
set_option maxRecDepth 100000 in
theorem rcheck_any (x : Ru) (a b : Int) (w : World) (hX : RuG w x) (h1 : CkS false x.si a) (h2 : CkS true x.sd b) :
    Calls Tryd.prog 20 #[x.v] w fun e w' => e = .returned (.int .i64 (ruE x a b)) ∧ Below w.heap.size w w' := by
  have D0 := Lib.hid (fun wx (hx : Below w.heap.size w wx) => rlists_any x.ad x.n x.cap x.l wx (hX.or.keep hx))
  have D1 := Lib.hid (fun wx (hx : Below w.heap.size w wx) => h1 wx (hX.si.keep hx))
  have D2 := Lib.hid (fun wx (hx : Below w.heap.size w wx) => h2 wx (hX.sd.keep hx))
  unfold ruE
  clear hX h1 h2
  generalize orE x.l 0 = c at *
  obtain ⟨ad, n, cap, l, ⟨a1, n1, c1, l1⟩, ⟨a2, n2, c2, l2⟩, mi, md⟩ := x
  unfold Ru.v
  unfold Sg.v at *
  simp only at *
  have hb0 : Below w.heap.size w (w.alloc (.cells #[.slice ad n cap, .slice a1 n1 c1, .slice a2 n2 c2, .bool mi, .bool md] 25)) := (Below.refl _ w).alloc (Nat.le_refl _) _
  have X0 := Lib.hid (bq5_new w (.slice ad n cap) (.slice a1 n1 c1) (.slice a2 n2 c2) (.bool mi) (.bool md) 25)
  have HB0 := Lib.hid hb0
  clear hb0
  obtain ⟨e0, e1, e2, e3, e4, -⟩ := X0.out
  by_cases qc : c = 0
  · subst qc
    by_cases qa : a = 0
    · subst qa
      by_cases qb : b = 0
      · subst qb
        have n1a : n1 = 0 → ((n1 : Int) == 0) = true := fun h => by rw [h]; rfl
        have n1b : ¬ n1 = 0 → ((n1 : Int) == 0) = false := fun h => beq_eq_false_iff_ne.2 (by omega)
        have n2a : n2 = 0 → ((n2 : Int) == 0) = true := fun h => by rw [h]; rfl
        have n2b : ¬ n2 = 0 → ((n2 : Int) == 0) = false := fun h => beq_eq_false_iff_ne.2 (by omega)
        by_cases k1 : n1 = 0
        all_goals by_cases k2 : n2 = 0
        all_goals cases mi
        all_goals cases md
        all_goals
          first | rw [decide_eq_true k1] | rw [decide_eq_false k1]
          first | rw [decide_eq_true k2] | rw [decide_eq_false k2]
          first | (have p1 := n1a k1) | (have p1 := n1b k1)
          first | (have p2 := n2a k2) | (have p2 := n2b k2)
          clear n1a n1b n2a n2b k1 k2
          go_enter Tryd.func20, Tryd.ntmps20
          go_wp2_with fail
          (with_reducible refine (D0.out _ HB0.out).mono ?_)
          rintro e w1 ⟨rfl, hb1⟩
          have H1 := Lib.hid (HB0.out.trans (hb1.mono HB0.out.size))
          have X1 := Lib.hid (X0.out.keep hb1)
          clear hb1 e0 e1 e2 e3 e4
          obtain ⟨e0, e1, e2, e3, e4, -⟩ := X1.out
          go_wp2_with fail
          (with_reducible refine (D1.out _ H1.out).mono ?_)
          rintro e w2 ⟨rfl, hb2⟩
          have H2 := Lib.hid (H1.out.trans (hb2.mono H1.out.size))
          have X2 := Lib.hid (X1.out.keep hb2)
          clear hb2 e0 e1 e2 e3 e4
          obtain ⟨e0, e1, e2, e3, e4, -⟩ := X2.out
          go_wp2_with fail
          (with_reducible refine (D2.out _ H2.out).mono ?_)
          rintro e w3 ⟨rfl, hb3⟩
          have H3 := Lib.hid (H2.out.trans (hb3.mono H2.out.size))
          have X3 := Lib.hid (X2.out.keep hb3)
          clear hb3 e0 e1 e2 e3 e4
          obtain ⟨e0, e1, e2, e3, e4, -⟩ := X3.out
          go_wp2
          go_ret
          exact ⟨rfl, H3.out⟩
      · have qb2 : (b == 0) = false := beq_eq_false_iff_ne.2 qb
        rw [if_neg (by decide), if_neg (by decide), if_pos qb]
        go_enter Tryd.func20, Tryd.ntmps20
        go_wp2_with fail
        (with_reducible refine (D0.out _ HB0.out).mono ?_)
        rintro e w1 ⟨rfl, hb1⟩
        have H1 := Lib.hid (HB0.out.trans (hb1.mono HB0.out.size))
        have X1 := Lib.hid (X0.out.keep hb1)
        clear hb1 e0 e1 e2 e3 e4
        obtain ⟨e0, e1, e2, e3, e4, -⟩ := X1.out
        go_wp2_with fail
        (with_reducible refine (D1.out _ H1.out).mono ?_)
        rintro e w2 ⟨rfl, hb2⟩
        have H2 := Lib.hid (H1.out.trans (hb2.mono H1.out.size))
        have X2 := Lib.hid (X1.out.keep hb2)
        clear hb2 e0 e1 e2 e3 e4
        obtain ⟨e0, e1, e2, e3, e4, -⟩ := X2.out
        go_wp2_with fail
        (with_reducible refine (D2.out _ H2.out).mono ?_)
        rintro e w3 ⟨rfl, hb3⟩
        have H3 := Lib.hid (H2.out.trans (hb3.mono H2.out.size))
        have X3 := Lib.hid (X2.out.keep hb3)
        clear hb3 e0 e1 e2 e3 e4
        obtain ⟨e0, e1, e2, e3, e4, -⟩ := X3.out
        go_wp2
        go_ret
        exact ⟨rfl, H3.out⟩
    · have qa2 : (a == 0) = false := beq_eq_false_iff_ne.2 qa
      rw [if_neg (by decide), if_pos qa]
      go_enter Tryd.func20, Tryd.ntmps20
      go_wp2_with fail
      (with_reducible refine (D0.out _ HB0.out).mono ?_)
      rintro e w1 ⟨rfl, hb1⟩
      have H1 := Lib.hid (HB0.out.trans (hb1.mono HB0.out.size))
      have X1 := Lib.hid (X0.out.keep hb1)
      clear hb1 e0 e1 e2 e3 e4
      obtain ⟨e0, e1, e2, e3, e4, -⟩ := X1.out
      go_wp2_with fail
      (with_reducible refine (D1.out _ H1.out).mono ?_)
      rintro e w2 ⟨rfl, hb2⟩
      have H2 := Lib.hid (H1.out.trans (hb2.mono H1.out.size))
      have X2 := Lib.hid (X1.out.keep hb2)
      clear hb2 e0 e1 e2 e3 e4
      obtain ⟨e0, e1, e2, e3, e4, -⟩ := X2.out
      go_wp2
      go_ret
      exact ⟨rfl, H2.out⟩
  · have qc2 : (c == 0) = false := beq_eq_false_iff_ne.2 qc
    rw [if_pos qc]
    go_enter Tryd.func20, Tryd.ntmps20
    go_wp2_with fail
    (with_reducible refine (D0.out _ HB0.out).mono ?_)
    rintro e w1 ⟨rfl, hb1⟩
    have H1 := Lib.hid (HB0.out.trans (hb1.mono HB0.out.size))
    have X1 := Lib.hid (X0.out.keep hb1)
    clear hb1 e0 e1 e2 e3 e4
    obtain ⟨e0, e1, e2, e3, e4, -⟩ := X1.out
    go_wp2
    go_ret
    exact ⟨rfl, H1.out⟩
end
section
open Go.RowKit

/-- The operands of a number, as a record. -/
def ops9 (p : Dc) (E : Nat) : Op9 := ⟨false, dStr p.i, dStr (cutF p), dStr p.i, (p.f.length : Int), ((cutF p).length : Int), dStr (intg p.f), dStr (intg (cutF p)), (E : Int)⟩
theorem ops9_v (p : Dc) (E : Nat) : (ops9 p E).v = opsV p E := rfl
/-- Does a relation hold of a number? -/
def hitR (p : Dc) (E : Nat) (x : Rl) : Bool := match letD p E x.op with
  | some d => (match leftD d x.mo with | some r => inB r x.wi x.l != x.no | none => false)
  | none => false
/-- Its list begins its block. -/
def Rl.Z (x : Rl) : Prop := x.n ≠ 0 → ∃ g, x.ad = some ⟨g, 0, none⟩
theorem spE_zero {l : List (ByteArray × ByteArray)} {k : Nat} (hk : k ≤ 64) (h : spE l k = 0) : l.length + k ≤ 64 ∧ l.all spanB = true := by
  induction l generalizing k with
  | nil => exact ⟨by simpa using hk, rfl⟩
  | cons x l ih =>
    rw [show spE (x :: l) k = if k = 64 then 5 else if spanB x = true then spE l (k + 1) else 50 from rfl] at h
    by_cases h6 : k = 64
    · rw [if_pos h6] at h; cases h
    · rw [if_neg h6] at h
      by_cases hs : spanB x = true
      · rw [if_pos hs] at h
        obtain ⟨a, b⟩ := ih (by omega) h
        refine ⟨by rw [List.length_cons]; omega, ?_⟩
        rw [List.all_cons, hs, b]; rfl
      · rw [if_neg hs] at h; cases h
theorem relE_zero {x : Rl} (hl : x.l.length = x.n) (h : relE x = 0) : opB x.op = true ∧ (x.mo.toList.isEmpty = true ∨ moB x.mo = true) ∧ x.n ≠ 0 ∧ listB x.l = true := by
  unfold relE at h
  split at h
  · rename_i hc
    obtain ⟨a, b⟩ := spE_zero (by omega) h
    refine ⟨hc.1, hc.2.1, hc.2.2, ?_⟩
    unfold listB
    rw [b, decide_eq_true (by rw [hl]; have := hc.2.2; omega), decide_eq_true (by omega)]
    rfl
  · cases h
theorem letD_some {p : Dc} {E : Nat} {L : ByteArray} (h : opB L = true) : ∃ d, letD p E L = some d := by
  unfold opB at h
  rw [List.any_eq_true] at h
  obtain ⟨c, hc, hq⟩ := h
  have e : L = ⟨#[c]⟩ := by
    rw [Lib.toList_data, beq_iff_eq] at hq
    apply ByteArray.ext
    apply Array.ext'
    exact hq
  subst e
  unfold letD
  simp only [List.mem_cons, List.not_mem_nil, or_false] at hc
  rcases hc with rfl | rfl | rfl | rfl | rfl | rfl | rfl | rfl <;> exact ⟨_, rfl⟩
/-- Digits without a nought ahead that are worth nought are one nought. -/
theorem nought_one {l : List Nat} (h : (litD l).Ok) (h0 : dVal l = 0) : l = [0] := by
  rcases h.lead with h1 | ⟨x, hx, hn⟩
  · match l, h1 with
    | [x], _ => rw [dVal_one] at h0; rw [h0]
  · match l, hx with
    | y :: t, hx =>
      simp [litD] at hx
      subst hx
      rw [dVal_cons] at h0
      have hp : 0 < 10 ^ t.length := Nat.pow_pos (by decide)
      have : 0 < y * 10 ^ t.length := Nat.mul_pos (by omega) hp
      omega
theorem leftD_some {d : Dc} {m : ByteArray} (hd : d.Ok) (h : m.toList.isEmpty = true ∨ moB m = true) : ∃ r, leftD d m = some r := by
  unfold leftD
  by_cases h0 : m.size = 0
  · rw [if_pos h0]; exact ⟨_, rfl⟩
  · rw [if_neg h0]
    rcases h with h | h
    · exact absurd (by rw [List.isEmpty_iff] at h; exact toList_nil.1 h) h0
    · unfold moB nuB at h
      rw [Bool.and_eq_true] at h
      rw [if_pos h.1]
      obtain ⟨ho, he⟩ := num_form h.1
      have hnum : (litD (dN m.data.toList)).num = dVal (dN m.data.toList) := by show dVal (_ ++ []) = _; rw [List.append_nil]; rfl
      have hz : dVal (dN m.data.toList) ≠ 0 := by
        intro e
        have e1 := nought_one ho e
        rw [e1] at he
        have h2 := h.2
        rw [he] at h2
        revert h2
        decide +kernel
      rw [if_neg hz]
      exact rem_room hd ho (by intro e; apply hz; rw [← hnum, ← z_abs, e]; rfl)

theorem in_valid (p : Dc) (E : Nat) (hp : p.Ok) (hE : E ≤ 40) (x : Rl) (hl : x.l.length = x.n) (hz : x.Z) (hm : x.mo.size ≤ 140737488355328) (hv : relE x = 0)
    (HC : ∀ wx : World, Calls Tryd.prog 21 #[opsV p E] wx fun e w' => e = .returned (.int .i64 0) ∧ Below wx.heap.size wx w') : InR (ops9 p E) (hitR p E) x := by
  intro wx hS
  obtain ⟨h1, h2, h3, h4⟩ := relE_zero hl hv
  obtain ⟨g, hg⟩ := hz h3
  obtain ⟨d, hd⟩ := letD_some (p := p) (E := E) h1
  obtain ⟨o1, o2, -⟩ := letD_ok hp hE hd
  obtain ⟨r, hr⟩ := leftD_some o1 h2
  obtain ⟨r1, -⟩ := leftD_ok o1 o2 hr
  have HG := get_form p E x.op hp hE HC
  rw [hd] at HG
  have HM := mod_form (HG := HG) (hx := o1) (hb := hm) (by_ := x.mo) (on := _) (oi := _) (oj := _) (oI := _) (oV := _) (oW := _) (oG := _) (oT := _) (oX := _) (L := x.op)
  rw [hr] at HM
  obtain ⟨g', off, e1, e2, e3⟩ := hS.at_ h3
  have e0 := hg.symm.trans e1
  obtain ⟨rfl, rfl⟩ : g = g' ∧ 0 = off := by
    have := Option.some.inj e0
    exact ⟨congrArg Addr.block this, congrArg Addr.off this⟩
  have hs : Spn wx g x.l := fun k hk => by
    have := e3 k hk
    rw [Nat.zero_add] at this
    exact this
  have K := in_yes (HM := HM) (hr := r1) (l := x.l) (g := g) (n := x.n) (cap := x.cap) (w := wx) (hs := hs) (hg := e2) (hl := hS.len) (hB := h4) (hz := fun k _ => hS.sz k) (rN := x.no) (rW := x.wi)
  have eh : hitR p E x = (inB r x.wi x.l != x.no) := by
    unfold hitR
    rw [hd]
    simp only
    rw [hr]
  rw [eh]
  unfold Rl.v
  rw [hg]
  exact K
end
section
open Go.RowKit

theorem andE_zero {l : List Rl} {c : Nat} (h : (andE l c).1 = 0) : ∀ r ∈ l, relE r = 0 := by
  induction l generalizing c with
  | nil => intro r hr; cases hr
  | cons x l ih =>
    rw [andE_cons] at h
    by_cases h6 : c = 64
    · rw [if_pos h6] at h; cases h
    · rw [if_neg h6] at h
      by_cases hx : relE x = 0
      · rw [if_pos hx] at h
        intro r hr
        rcases List.mem_cons.1 hr with rfl | hr
        · exact hx
        · exact ih h r hr
      · rw [if_neg hx] at h
        exact absurd h hx
theorem orE_zero {l : List An} {c : Nat} (h : orE l c = 0) : ∀ a ∈ l, a.n ≠ 0 ∧ ∀ r ∈ a.l, relE r = 0 := by
  induction l generalizing c with
  | nil => intro a ha; cases ha
  | cons x l ih =>
    rw [orE_cons] at h
    by_cases h0 : x.n = 0
    · rw [if_pos h0] at h; cases h
    · rw [if_neg h0] at h
      by_cases hx : (andE x.l c).1 = 0
      · rw [if_pos hx] at h
        intro a ha
        rcases List.mem_cons.1 ha with rfl | ha
        · exact ⟨h0, andE_zero hx⟩
        · exact ih h a ha
      · rw [if_neg hx] at h
        exact absurd h hx
theorem ruE_zero {x : Ru} {a b : Int} (h : ruE x a b = 0) : orE x.l 0 = 0 ∧ a = 0 ∧ b = 0 := by
  unfold ruE at h
  split at h
  · rename_i h1; exact absurd h h1
  · rename_i h1
    split at h
    · rename_i h2; exact absurd h h2
    · rename_i h2
      split at h
      · rename_i h3; exact absurd h h3
      · rename_i h3
        exact ⟨Decidable.not_not.1 h1, Decidable.not_not.1 h2, Decidable.not_not.1 h3⟩
theorem nmE_zero {ck : Ru → Int} {x : Nm} {b : List Nm} (h : nmE ck x b = 0) : catB x.cat = true ∧ plE x.cat b = 0 ∧ ck x.ru = 0 ∧ hlB x.cat x.ru.n = true := by
  unfold nmE at h
  split at h
  · cases h
  · rename_i h1
    split at h
    · rename_i h2; exact absurd h h2
    · rename_i h2
      split at h
      · rename_i h3; exact absurd h h3
      · rename_i h3
        split at h
        · rename_i h4
          exact ⟨by simpa using h1, Decidable.not_not.1 h2, Decidable.not_not.1 h3, h4⟩
        · cases h
theorem setE_zero {ck : Ru → Int} {l b : List Nm} (h : setE ck b l = 0) : ∀ x ∈ l, catB x.cat = true ∧ ck x.ru = 0 ∧ hlB x.cat x.ru.n = true := by
  induction l generalizing b with
  | nil => intro x hx; cases hx
  | cons y l ih =>
    rw [setE_cons] at h
    by_cases h0 : nmE ck y b = 0
    · rw [if_pos h0] at h
      intro x hx
      rcases List.mem_cons.1 hx with rfl | hx
      · obtain ⟨a1, -, a2, a3⟩ := nmE_zero h0
        exact ⟨a1, a2, a3⟩
      · exact ih h x hx
    · rw [if_neg h0] at h
      exact absurd h h0

/-- What a relation in memory must bear for In. -/
def Rl.F (x : Rl) : Prop := x.l.length = x.n ∧ x.Z ∧ x.mo.size ≤ 140737488355328
def Ru.F (x : Ru) : Prop := ∀ a ∈ x.l, ∀ r ∈ a.l, r.F

theorem opsV_abs (x : Dc) (E : Nat) : opsV (absX x) E = opsV x E := rfl
theorem in_set (x : Dc) (hx : x.Ok) (E : Nat) (hE : E ≤ 40) (r : Rl) (hF : r.F) (hv : relE r = 0) : InR (ops9 (absX x) E) (hitR (absX x) E) r :=
  in_valid (absX x) E (absX_ok hx) hE r hF.1 hF.2.1 hF.2.2 hv (fun wx => ocheck_ok (absX x) ⟨false, x.i, cutF x⟩ E wx (absX_ok hx) rfl (by omega) (by omega) (absX_trim x))

/-- The program's Pick, of a set that may be and a number that has operands. -/
theorem Pick_at (ck : Ru → Int) (hck : ∀ x, ck x = 0 → orE x.l 0 = 0) (d x : Dc) (k : Int) (hd : d.Ok) (hx : x.Ok) (hk1 : 0 ≤ k) (hk2 : k ≤ 40) (ho : shD d k = some x)
    (ad : Option Addr) (n cap : Nat) (l : List Nm) (w : World) (hR : ∀ x ∈ l, CkR ck x.ru) (hS : SetG w ad n l) (hcap : n ≤ cap) (hF : ∀ x ∈ l, x.ru.F) (hs : setE ck [] l = 0) :
    Calls Tryd.prog 11 #[.agg #[.slice ad n cap], .agg #[.bool d.neg, .string (dStr d.i), .string (dStr d.f)], .int .i64 k] w fun e w' => e = .returned (.tuple #[.int .i64 (pkC (hitR (absX x) k.toNat) l), .int .i64 0]) ∧ Below w.heap.size w w' := by
  have hrel : ∀ x ∈ l, ∀ a ∈ x.ru.l, ∀ r ∈ a.l, relE r = 0 := fun x hx a ha r hr => (orE_zero (hck _ (setE_zero hs x hx).2.1) a ha).2 r hr
  have HO := of_told hd hx hk1 hk2 ho
  have hE : (k.toNat : Int) = k := by omega
  have hP : PkR (.slice ad n cap) d.neg (dStr d.i) (dStr d.f) k w (pkC (hitR (absX x) k.toNat) l) 0 := fun wx hb => by
    refine pick_ok d.neg (dStr d.i) (dStr d.f) k (ops9 (absX x) k.toNat) (hitR (absX x) k.toNat) ad n cap l wx (fun wx => ?_) (fun y hy a ha r hr => ?_) (hS.keep hb)
    · rw [ops9_v, opsV_abs]
      unfold opsV
      rw [hE]
      exact HO wx
    · exact in_set x hx k.toNat (by omega) r (hF y hy a ha r hr) (hrel y hy a ha r hr)
  have K := Pick_any ck d.neg (dStr d.i) (dStr d.f) k _ 0 ad n cap l w hR hS hcap (fun _ => hP)
  rwa [if_pos hs, if_pos hs] at K
/-- The program's Pick, of a number that has no operands. -/
theorem Pick_none (ck : Ru → Int) (dn : Bool) (di df : ByteArray) (k c : Int) (hc : c ≠ 0)
    (HO : ∀ wx : World, Calls Tryd.prog 7 #[.agg #[.bool dn, .string di, .string df], .int .i64 k] wx fun e w' => e = .returned (.tuple #[.agg #[.bool false, .string ⟨#[]⟩, .string ⟨#[]⟩, .string ⟨#[]⟩, .int .i64 0, .int .i64 0, .string ⟨#[]⟩, .string ⟨#[]⟩, .int .i64 0], .int .i64 c]) ∧ Below wx.heap.size wx w')
    (ad : Option Addr) (n cap : Nat) (l : List Nm) (w : World) (hR : ∀ x ∈ l, CkR ck x.ru) (hS : SetG w ad n l) (hcap : n ≤ cap) (hs : setE ck [] l = 0) :
    Calls Tryd.prog 11 #[.agg #[.slice ad n cap], .agg #[.bool dn, .string di, .string df], .int .i64 k] w fun e w' => e = .returned (.tuple #[.int .i64 0, .int .i64 c]) ∧ Below w.heap.size w w' := by
  have hP : PkR (.slice ad n cap) dn di df k w 0 c := fun wx _ => pick_bad dn di df k c ⟨false, ⟨#[]⟩, ⟨#[]⟩, ⟨#[]⟩, 0, 0, ⟨#[]⟩, ⟨#[]⟩, 0⟩ _ wx hc HO
  have K := Pick_any ck dn di df k 0 c ad n cap l w hR hS hcap (fun _ => hP)
  rwa [if_pos hs, if_pos hs] at K
/-- The program's Pick, of a set that may not be. -/
theorem Pick_wrong (ck : Ru → Int) (dn : Bool) (di df : ByteArray) (k : Int)
    (ad : Option Addr) (n cap : Nat) (l : List Nm) (w : World) (hR : ∀ x ∈ l, CkR ck x.ru) (hS : SetG w ad n l) (hcap : n ≤ cap) (hs : setE ck [] l ≠ 0) :
    Calls Tryd.prog 11 #[.agg #[.slice ad n cap], .agg #[.bool dn, .string di, .string df], .int .i64 k] w fun e w' => e = .returned (.tuple #[.int .i64 0, .int .i64 (setE ck [] l)]) ∧ Below w.heap.size w w' := by
  have K := Pick_any ck dn di df k 0 0 ad n cap l w hR hS hcap (fun h => absurd h hs)
  rwa [if_neg hs, if_neg hs] at K
end
section
open Go.RowKit

def tI : ByteArray := ⟨#[105]⟩
def tV : ByteArray := ⟨#[118]⟩
def t0 : ByteArray := ⟨#[48]⟩
def t1 : ByteArray := ⟨#[49]⟩
def enI (B : Nat) : Rl := ⟨⟨#[105]⟩, ⟨#[]⟩, false, false, some ⟨B + 1, 0, none⟩, 1, 1, [(⟨#[49]⟩, ⟨#[49]⟩)]⟩
def enV (B : Nat) : Rl := ⟨⟨#[118]⟩, ⟨#[]⟩, false, false, some ⟨B + 2, 0, none⟩, 1, 1, [(⟨#[48]⟩, ⟨#[48]⟩)]⟩
def enN (B : Nat) : An := ⟨some ⟨B + 3, 0, none⟩, 2, 2, [enI B, enV B]⟩
def enR (B : Nat) : Ru := ⟨some ⟨B + 4, 0, none⟩, 1, 1, [enN B], ⟨none, 0, 0, []⟩, ⟨none, 0, 0, []⟩, false, false⟩
def enS (B : Nat) : List Nm := [⟨2, enR B⟩, ⟨0, Ru.nil⟩]

theorem fresh_cell (w : World) (o : Array Value) (t : TypeId) (j : Nat) : (w.alloc (.cells o t)).cell? ⟨w.heap.size, j, none⟩ = o[j]? := by simp
theorem below_one (w : World) (o : Array Value) (t : TypeId) : Below w.heap.size w (w.alloc (.cells o t)) := (Below.refl _ w).alloc (Nat.le_refl _) _
theorem size_one (w : World) (o : Array Value) (t : TypeId) : (w.alloc (.cells o t)).heap.size = w.heap.size + 1 := by simp

theorem span_one (W : World) (g : Nat) (a b : ByteArray) (hg : g < W.heap.size) (ha : a.size ≤ 10) (hb : b.size ≤ 10) (h0 : W.cell? ⟨g, 0, none⟩ = some (.string a)) (h1 : W.cell? ⟨g, 1, none⟩ = some (.string b)) : SpnG W (some ⟨g, 0, none⟩) 1 [(a, b)] := by
  refine ⟨rfl, by decide, fun _ => ⟨g, 0, rfl, hg, fun k hk => ?_⟩, fun k => ?_⟩
  · have : k = 0 := by simp at hk; omega
    subst this
    exact ⟨h0, h1⟩
  · match k with
    | 0 => exact ⟨by show a.size ≤ _; omega, by show b.size ≤ _; omega⟩
    | k + 1 => exact ⟨by show (0 : Nat) ≤ _; omega, by show (0 : Nat) ≤ _; omega⟩
theorem span_nil (W : World) : SpnG W none 0 [] := ⟨rfl, by decide, fun h => absurd rfl h, fun k => ⟨by show (0 : Nat) ≤ _; omega, by show (0 : Nat) ≤ _; omega⟩⟩
theorem ru_nil (W : World) : RuG W Ru.nil := ⟨⟨rfl, by decide, fun h => absurd rfl h⟩, span_nil W, span_nil W⟩

theorem english_world (w w1 w2 w3 w4 w5 w6 : World) (B : Nat) (hB : w.heap.size = B) (sv : Value) (t0 t1 t2 t3 t4 : TypeId)
    (h1 : w1 = w.alloc (.cells #[sv] t0))
    (h2 : w2 = w1.alloc (.cells #[.string ⟨#[49]⟩, .string ⟨#[49]⟩] t1))
    (h3 : w3 = w2.alloc (.cells #[.string ⟨#[48]⟩, .string ⟨#[48]⟩] t1))
    (h4 : w4 = w3.alloc (.cells #[.string ⟨#[105]⟩, .string ⟨#[]⟩, .bool false, .bool false, .slice (some ⟨B + 1, 0, none⟩) 1 1, .string ⟨#[118]⟩, .string ⟨#[]⟩, .bool false, .bool false, .slice (some ⟨B + 2, 0, none⟩) 1 1] t2))
    (h5 : w5 = w4.alloc (.cells #[.slice (some ⟨B + 3, 0, none⟩) 2 2] t3))
    (h6 : w6 = w5.alloc (.cells #[.int .i64 2, .slice (some ⟨B + 4, 0, none⟩) 1 1, .slice none 0 0, .slice none 0 0, .bool false, .bool false, .int .i64 0, .slice none 0 0, .slice none 0 0, .slice none 0 0, .bool false, .bool false] t4)) :
    Below w.heap.size w w6 ∧ w6.heap.size = B + 6 ∧ SetG w6 (some ⟨B + 5, 0, none⟩) 2 (enS B) := by
  have z1 : w1.heap.size = B + 1 := by rw [h1, size_one, hB]
  have z2 : w2.heap.size = B + 2 := by rw [h2, size_one, z1]
  have z3 : w3.heap.size = B + 3 := by rw [h3, size_one, z2]
  have z4 : w4.heap.size = B + 4 := by rw [h4, size_one, z3]
  have z5 : w5.heap.size = B + 5 := by rw [h5, size_one, z4]
  have z6 : w6.heap.size = B + 6 := by rw [h6, size_one, z5]
  have b1 : Below w.heap.size w w1 := by rw [h1]; exact below_one _ _ _
  have b2 : Below w1.heap.size w1 w2 := by rw [h2]; exact below_one _ _ _
  have b3 : Below w2.heap.size w2 w3 := by rw [h3]; exact below_one _ _ _
  have b4 : Below w3.heap.size w3 w4 := by rw [h4]; exact below_one _ _ _
  have b5 : Below w4.heap.size w4 w5 := by rw [h5]; exact below_one _ _ _
  have b6 : Below w5.heap.size w5 w6 := by rw [h6]; exact below_one _ _ _
  have b46 : Below w4.heap.size w4 w6 := b5.trans (b6.mono b5.size)
  have b36 : Below w3.heap.size w3 w6 := b4.trans (b46.mono b4.size)
  have b26 : Below w2.heap.size w2 w6 := b3.trans (b36.mono b3.size)
  have b16 : Below w1.heap.size w1 w6 := b2.trans (b26.mono b2.size)
  have b06 : Below w.heap.size w w6 := b1.trans (b16.mono b1.size)
  have c2 := fresh_cell w1 #[.string ⟨#[49]⟩, .string ⟨#[49]⟩] t1
  rw [← h2, z1] at c2
  have c3 := fresh_cell w2 #[.string ⟨#[48]⟩, .string ⟨#[48]⟩] t1
  rw [← h3, z2] at c3
  have c4 := fresh_cell w3 #[.string ⟨#[105]⟩, .string ⟨#[]⟩, .bool false, .bool false, .slice (some ⟨B + 1, 0, none⟩) 1 1, .string ⟨#[118]⟩, .string ⟨#[]⟩, .bool false, .bool false, .slice (some ⟨B + 2, 0, none⟩) 1 1] t2
  rw [← h4, z3] at c4
  have c5 := fresh_cell w4 #[.slice (some ⟨B + 3, 0, none⟩) 2 2] t3
  rw [← h5, z4] at c5
  have c6 := fresh_cell w5 #[.int .i64 2, .slice (some ⟨B + 4, 0, none⟩) 1 1, .slice none 0 0, .slice none 0 0, .bool false, .bool false, .int .i64 0, .slice none 0 0, .slice none 0 0, .slice none 0 0, .bool false, .bool false] t4
  rw [← h6, z5] at c6
  clear h1 h2 h3 h4 h5 h6
  have d2 : ∀ j, w6.cell? ⟨B + 1, j, none⟩ = _ := fun j => (b26.cell (p := ⟨B + 1, j, none⟩) (by show B + 1 < _; omega)).trans (c2 j)
  have d3 : ∀ j, w6.cell? ⟨B + 2, j, none⟩ = _ := fun j => (b36.cell (p := ⟨B + 2, j, none⟩) (by show B + 2 < _; omega)).trans (c3 j)
  have d4 : ∀ j, w6.cell? ⟨B + 3, j, none⟩ = _ := fun j => (b46.cell (p := ⟨B + 3, j, none⟩) (by show B + 3 < _; omega)).trans (c4 j)
  have d5 : ∀ j, w6.cell? ⟨B + 4, j, none⟩ = _ := fun j => (b6.cell (p := ⟨B + 4, j, none⟩) (by show B + 4 < _; omega)).trans (c5 j)
  have sI : SpnG w6 (some ⟨B + 1, 0, none⟩) 1 [(⟨#[49]⟩, ⟨#[49]⟩)] := span_one w6 (B + 1) _ _ (by omega) (by decide) (by decide) (d2 0) (d2 1)
  have sV : SpnG w6 (some ⟨B + 2, 0, none⟩) 1 [(⟨#[48]⟩, ⟨#[48]⟩)] := span_one w6 (B + 2) _ _ (by omega) (by decide) (by decide) (d3 0) (d3 1)
  have rI : RelAt w6 (B + 3) 0 (enI B) := ⟨d4 0, d4 1, d4 2, d4 3, d4 4, sI, by show (0 : Nat) ≤ _; omega⟩
  have rV : RelAt w6 (B + 3) 5 (enV B) := ⟨d4 5, d4 6, d4 7, d4 8, d4 9, sV, by show (0 : Nat) ≤ _; omega⟩
  have an : AndG w6 (some ⟨B + 3, 0, none⟩) 2 [enI B, enV B] := ⟨rfl, by decide, fun _ => ⟨B + 3, 0, rfl, by omega, fun k hk => by
    match k, hk with
    | 0, _ => exact rI
    | 1, _ => exact rV⟩⟩
  have or : OrG w6 (some ⟨B + 4, 0, none⟩) 1 [enN B] := ⟨rfl, by decide, fun _ => ⟨B + 4, 0, rfl, by omega, fun k hk => by
    match k, hk with
    | 0, _ => exact ⟨d5 0, an⟩⟩⟩
  have r1 : RuG w6 (enR B) := ⟨or, span_nil w6, span_nil w6⟩
  have n1 : NmAt w6 (B + 5) 0 ⟨2, enR B⟩ := ⟨c6 0, c6 1, c6 2, c6 3, c6 4, c6 5, r1⟩
  have n2 : NmAt w6 (B + 5) 6 ⟨0, Ru.nil⟩ := ⟨c6 6, c6 7, c6 8, c6 9, c6 10, c6 11, ru_nil w6⟩
  exact ⟨b06, z6, rfl, by decide, fun _ => ⟨B + 5, 0, rfl, by omega, fun k hk => by
    match k, hk with
    | 0, _ => exact n1
    | 1, _ => exact n2⟩⟩

set_option maxHeartbeats 8000000 in
set_option maxRecDepth 100000 in
theorem english_any (w : World) : Calls Tryd.prog 14 #[] w fun e w' => e = .returned (.agg #[.slice (some ⟨w.heap.size + 5, 0, none⟩) 2 2]) ∧ Below w.heap.size w w' ∧ w'.heap.size = w.heap.size + 6 ∧ SetG w' (some ⟨w.heap.size + 5, 0, none⟩) 2 (enS w.heap.size) := by
  have K := english_world w _ _ _ _ _ _ w.heap.size rfl (.slice (some ⟨w.heap.size + 5, 0, none⟩) 2 2) 45 76 40 37 50 rfl rfl rfl rfl rfl rfl
  have HK := Lib.hid K
  clear K
  go_enter Tryd.func14, Tryd.ntmps14
  go_wp2
  exact bodyPost_ret (v := .agg #[.slice (some ⟨w.heap.size + 5, 0, none⟩) 2 2]) (by simp [results, Tryd.results14, go_sem]) rfl ⟨rfl, HK.out⟩
end
section
open Go.RowKit

/-- What Check finds where there are no samples. -/
def ckN (x : Ru) : Int := ruE x 0 0
theorem ckN_or (x : Ru) (h : ckN x = 0) : orE x.l 0 = 0 := (ruE_zero h).1
theorem ckN_told (x : Ru) (h1 : x.si.n = 0) (h2 : x.sd.n = 0) : CkR ckN x := fun wx hX => by
  refine rcheck_any x 0 0 wx hX (fun wy _ => ?_) (fun wy _ => ?_)
  · unfold Sg.v
    rw [h1]
    exact samples_none false _ _ wy
  · unfold Sg.v
    rw [h2]
    exact samples_none true _ _ wy
theorem en_relI (B : Nat) : relE (enI B) = 0 := (show relE (enI B) = relE (enI 0) from rfl).trans (by decide +kernel)
theorem en_relV (B : Nat) : relE (enV B) = 0 := (show relE (enV B) = relE (enV 0) from rfl).trans (by decide +kernel)
theorem en_set (B : Nat) : setE ckN [] (enS B) = 0 := by
  have h1 : orE [enN B] 0 = 0 := by
    rw [orE_cons, if_neg (by show ¬ (2 : Nat) = 0; decide)]
    have : andE (enN B).l 0 = (0, 2) := by
      show andE [enI B, enV B] 0 = _
      rw [andE_cons, if_neg (by decide), if_pos (en_relI B), andE_cons, if_neg (by decide), if_pos (en_relV B)]
      rfl
    rw [this, if_pos rfl]
    rfl
  have h2 : ckN (enR B) = 0 := by
    show ruE (enR B) 0 0 = 0
    unfold ruE
    rw [show orE (enR B).l 0 = 0 from h1, if_neg (by decide), if_neg (by decide), if_neg (by decide), if_neg (by show ¬ false = true; decide), if_neg (by show ¬ false = true; decide)]
  unfold enS
  rw [setE_cons, if_pos, setE_cons, if_pos]
  · rfl
  · rfl
  · unfold nmE
    rw [if_neg (by show ¬ catB 2 = false; decide), if_neg (by show ¬ plE 2 [] ≠ 0; decide), if_neg (by show ¬ ckN (enR B) ≠ 0; rw [h2]; decide), if_pos (by show hlB 2 1 = true; decide)]
theorem en_fine (B : Nat) : ∀ x ∈ enS B, x.ru.F := by
  intro x hx
  rcases List.mem_cons.1 hx with rfl | hx
  · intro a ha r hr
    obtain rfl := List.mem_singleton.1 ha
    rcases List.mem_cons.1 hr with rfl | hr
    · exact ⟨rfl, fun _ => ⟨B + 1, rfl⟩, by show (0 : Nat) ≤ _; omega⟩
    · obtain rfl := List.mem_singleton.1 hr
      exact ⟨rfl, fun _ => ⟨B + 2, rfl⟩, by show (0 : Nat) ≤ _; omega⟩
  · obtain rfl := List.mem_singleton.1 hx
    intro a ha
    cases ha
theorem en_told (B : Nat) : ∀ x ∈ enS B, CkR ckN x.ru := by
  intro x hx
  rcases List.mem_cons.1 hx with rfl | hx
  · exact ckN_told _ rfl rfl
  · obtain rfl := List.mem_singleton.1 hx
    exact ckN_told _ rfl rfl

theorem cmp_lit (a b : List Nat) : cmpD (litD a) (litD b) = ((dVal a : Int) - dVal b).sign := by
  unfold cmpD Dc.up Dc.z Dc.num litD
  simp
theorem sign_le (x : Int) : x.sign ≤ 0 ↔ x ≤ 0 := by
  rcases Int.lt_trichotomy x 0 with h | h | h
  · rw [Int.sign_eq_neg_one_of_neg h]; omega
  · rw [h]; decide
  · rw [Int.sign_eq_one_of_pos h]; omega
theorem hit_one (a : List Nat) (s : ByteArray) : hitB (litD a) [(s, s)] = decide (dVal a = dVal (dN s.data.toList)) := by
  unfold hitB
  rw [decide_eq_decide]
  constructor
  · rintro ⟨k, hk, h1, h2⟩
    obtain rfl : k = 0 := by simp at hk; omega
    have h1 := of_decide_eq_true h1
    have h2 := of_decide_eq_true h2
    change cmpD (spD s) (litD a) ≤ 0 at h1
    change cmpD (litD a) (spD s) ≤ 0 at h2
    unfold spD at h1 h2
    rw [cmp_lit, sign_le] at h1 h2
    omega
  · intro h
    refine ⟨0, Nat.one_pos, decide_eq_true ?_, decide_eq_true ?_⟩
    · change cmpD (spD s) (litD a) ≤ 0
      unfold spD
      rw [cmp_lit, sign_le]; omega
    · change cmpD (litD a) (spD s) ≤ 0
      unfold spD
      rw [cmp_lit, sign_le]; omega
theorem in_one (a : List Nat) (s : ByteArray) : (inB (litD a) false [(s, s)] != false) = decide (dVal a = dVal (dN s.data.toList)) := by
  unfold inB
  rw [hit_one, show decide ((litD a).f = []) = true from rfl]
  simp
theorem en_hitI (p : Dc) (B : Nat) : hitR p 0 (enI B) = decide (dVal p.i = 1) := by
  have : hitR p 0 (enI B) = (inB (litD p.i) false [(⟨#[49]⟩, ⟨#[49]⟩)] != false) := rfl
  rw [this, in_one]
  rfl
theorem en_hitV (p : Dc) (B : Nat) : hitR p 0 (enV B) = decide (p.f.length = 0) := by
  have : hitR p 0 (enV B) = (inB (litD (digs p.f.length)) false [(⟨#[48]⟩, ⟨#[48]⟩)] != false) := rfl
  rw [this, in_one, dVal_digs]
  rfl
theorem en_pick (p : Dc) (B : Nat) : pkC (hitR p 0) (enS B) = if dVal p.i = 1 ∧ p.f.length = 0 then 2 else 0 := by
  have h : holdN (hitR p 0) ⟨2, enR B⟩ = decide (dVal p.i = 1 ∧ p.f.length = 0) := by
    have : holdN (hitR p 0) ⟨2, enR B⟩ = (hitR p 0 (enI B) && (hitR p 0 (enV B) && true) || false) := rfl
    rw [this, en_hitI, en_hitV, Bool.and_true, Bool.or_false, ← Bool.decide_and]
  have h2 : holdN (hitR p 0) ⟨0, Ru.nil⟩ = true := rfl
  unfold pkC enS
  rw [List.findIdx_cons, h]
  by_cases hc : dVal p.i = 1 ∧ p.f.length = 0
  · rw [if_pos hc, decide_eq_true hc]
    rfl
  · rw [if_neg hc, decide_eq_false hc, List.findIdx_cons, h2]
    rfl

/-- Pick by English, of any decimal. -/
theorem pick_english (dn : Bool) (di df : ByteArray) (h1 : di.size ≤ 140737488355328) (h2 : df.size ≤ 140737488355328) (B : Nat) (w : World) (hS : SetG w (some ⟨B + 5, 0, none⟩) 2 (enS B)) :
    ∃ a c : Int, (Calls Tryd.prog 11 #[.agg #[.slice (some ⟨B + 5, 0, none⟩) 2 2], .agg #[.bool dn, .string di, .string df], .int .i64 0] w fun e w' => e = .returned (.tuple #[.int .i64 a, .int .i64 c]) ∧ Below w.heap.size w w') ∧
      ((okB dn di df = false ∧ a = 0 ∧ c = 20) ∨ (c = 0 ∧ ∃ d : Dc, d.Ok ∧ dn = d.neg ∧ di = dStr d.i ∧ df = dStr d.f ∧ a = if dVal d.i = 1 ∧ d.f.length = 0 then 2 else 0)) := by
  cases h : okB dn di df with
  | false => exact ⟨0, 20, Pick_none ckN dn di df 0 20 (by decide) (fun wx => of_bad dn di df 0 wx h1 h2 h) _ 2 2 (enS B) w (en_told B) hS (by omega) (en_set B), .inl ⟨rfl, rfl, rfl⟩⟩
  | true =>
    obtain ⟨d, hd, rfl, rfl, rfl⟩ := ok_cases h
    have K := Pick_at ckN ckN_or d d 0 hd hd (by omega) (by omega) (shift_zero hd) _ 2 2 (enS B) w (en_told B) hS (by omega) (en_fine B) (en_set B)
    exact ⟨_, 0, K, .inr ⟨rfl, d, hd, rfl, rfl, rfl, en_pick (absX d) B⟩⟩
end
section
open Go.RowKit

/-- The names, by the categories' numbers. -/
def nmC (k : Nat) : ByteArray := match k with
  | 0 => ⟨#[111, 116, 104, 101, 114]⟩
  | 1 => ⟨#[122, 101, 114, 111]⟩
  | 2 => ⟨#[111, 110, 101]⟩
  | 3 => ⟨#[116, 119, 111]⟩
  | 4 => ⟨#[102, 101, 119]⟩
  | 5 => ⟨#[109, 97, 110, 121]⟩
  | _ => ⟨#[]⟩
/-- The package's table. -/
structure TabC (W : World) : Prop where
  at_ : ∀ k, k < 6 → W.cell? ⟨0, k, none⟩ = some (.string (nmC k))
  lt : 0 < W.heap.size
theorem TabC.keep {W w' : World} (h : TabC W) (hb : Below W.heap.size W w') : TabC w' :=
  ⟨fun k hk => (hb.cell (p := ⟨0, k, none⟩) h.lt).trans (h.at_ k hk), Nat.lt_of_lt_of_le h.lt hb.size⟩

set_option maxHeartbeats 2000000 in
set_option maxRecDepth 100000 in
theorem cname_in (k : Nat) (w : World) (hk : k < 6) (hT : TabC w) :
    Calls Tryd.prog 15 #[.int .i64 (k : Int)] w fun e w' => e = .returned (.tuple #[.string (nmC k), .int .i64 0]) ∧ Below w.heap.size w w' := by
  have h0 := hT.at_ k hk
  have D := Lib.hid (fun wx => isCat_any (k : Int) wx)
  rw [show catB (k : Int) = true by unfold catB; rw [decide_eq_true (by omega), decide_eq_true (by omega)]; rfl] at D
  have HT := Lib.hid hT
  clear hT h0
  have hk2 : ((k : Int) < 6) := by omega
  go_enter Tryd.func15, Tryd.ntmps15
  go_wp2_with fail
  (with_reducible refine (D.out _).mono ?_)
  rintro e w1 ⟨rfl, hb⟩
  have h0 := (HT.out.keep hb).at_ k hk
  have HB := Lib.hid hb
  clear hb
  go_wp2
  go_ret2
  exact ⟨rfl, HB.out⟩

set_option maxHeartbeats 4000000 in
set_option maxRecDepth 100000 in
theorem cawake_any (w : World) (hT : TabC w) : Calls Tryd.prog 6 #[] w fun e w' => e = .returned (.bool true) ∧ Below w.heap.size w w' := by
  have DE := Lib.hid (fun wx => english_any wx)
  have P1 : Hid (∀ (B : Nat) (wx : World), SetG wx (some ⟨B + 5, 0, none⟩) 2 (enS B) → Calls Tryd.prog 11 #[.agg #[.slice (some ⟨B + 5, 0, none⟩) 2 2], .agg #[.bool false, .string ⟨#[49]⟩, .string ⟨#[]⟩], .int .i64 0] wx fun e w' => e = .returned (.tuple #[.int .i64 2, .int .i64 0]) ∧ Below wx.heap.size wx w') := Lib.hid (fun B wx hS => by
    obtain ⟨a, c, K, H⟩ := pick_english false ⟨#[49]⟩ ⟨#[]⟩ (by decide) (by decide) B wx hS
    rcases H with ⟨h, -, -⟩ | ⟨rfl, d, hd, h1, h2, h3, ha⟩
    · exact absurd h (by decide +kernel)
    · have e1 : d.i = [1] := dStr_inj hd.di (by intro x hx; simp at hx; omega) (h2.symm.trans (by decide +kernel))
      have e2 : d.f = [] := by
        have := congrArg ByteArray.size h3
        rw [dStr_size] at this
        exact List.eq_nil_of_length_eq_zero this.symm
      rw [e1, e2, if_pos ⟨rfl, rfl⟩] at ha
      rw [ha] at K
      exact K)
  have P2 : Hid (∀ (B : Nat) (wx : World), SetG wx (some ⟨B + 5, 0, none⟩) 2 (enS B) → Calls Tryd.prog 11 #[.agg #[.slice (some ⟨B + 5, 0, none⟩) 2 2], .agg #[.bool false, .string ⟨#[49]⟩, .string ⟨#[48]⟩], .int .i64 0] wx fun e w' => e = .returned (.tuple #[.int .i64 0, .int .i64 0]) ∧ Below wx.heap.size wx w') := Lib.hid (fun B wx hS => by
    obtain ⟨a, c, K, H⟩ := pick_english false ⟨#[49]⟩ ⟨#[48]⟩ (by decide) (by decide) B wx hS
    rcases H with ⟨h, -, -⟩ | ⟨rfl, d, hd, h1, h2, h3, ha⟩
    · exact absurd h (by decide +kernel)
    · have e2 : d.f.length = 1 := by
        have := congrArg ByteArray.size h3
        rw [dStr_size] at this
        exact this.symm
      rw [if_neg (by rw [e2]; rintro ⟨-, h⟩; cases h)] at ha
      rw [ha] at K
      exact K)
  have PN : Hid (∀ wx : World, Below w.heap.size w wx → Calls Tryd.prog 15 #[.int .i64 4] wx fun e w' => e = .returned (.tuple #[.string ⟨#[102, 101, 119]⟩, .int .i64 0]) ∧ Below wx.heap.size wx w') := Lib.hid (fun wx hx => cname_in 4 wx (by decide) (hT.keep hx))
  clear hT
  go_enter Tryd.func6, Tryd.ntmps6
  go_wp2_with fail
  (with_reducible refine (DE.out _).mono ?_)
  rintro e w1 ⟨rfl, hb1, hz1, hS1⟩
  have H1 := Lib.hid hb1
  have HS := Lib.hid hS1
  clear hb1 hS1 hz1
  go_wp2_with fail
  (with_reducible refine (P1.out _ _ HS.out).mono ?_)
  rintro e w2 ⟨rfl, hb2⟩
  have H2 := Lib.hid (H1.out.trans (hb2.mono H1.out.size))
  clear hb2 HS
  go_wp2_with fail
  (with_reducible refine (DE.out _).mono ?_)
  rintro e w3 ⟨rfl, hb3, hz3, hS3⟩
  have H3 := Lib.hid (H2.out.trans (hb3.mono H2.out.size))
  have HS := Lib.hid hS3
  clear hb3 hS3 hz3
  go_wp2_with fail
  (with_reducible refine (P2.out _ _ HS.out).mono ?_)
  rintro e w4 ⟨rfl, hb4⟩
  have H4 := Lib.hid (H3.out.trans (hb4.mono H3.out.size))
  clear hb4 HS
  go_wp2_with fail
  (with_reducible refine (PN.out _ H4.out).mono ?_)
  rintro e w5 ⟨rfl, hb5⟩
  have H5 := Lib.hid (H4.out.trans (hb5.mono H4.out.size))
  clear hb5
  go_wp2
  go_ret
  exact ⟨rfl, H5.out⟩
end
end Go.Proofs.YtmggdnnffdaffaaDoor
