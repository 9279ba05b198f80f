/- Merged: SmA, SmB, SmC, SmD, HoA. -/
import Derived.Test.YtmggdnnffdaffaaDoorDLeaf
import Derived.Lib.Bytealg
import Derived.Lib.IndexLaws
import Derived.Lib.Hide
import Derived.Test.YtmggdnnffdaffaaDoorRuB
import Derived.Test.YtmggdnnffdaffaaDoorDParseW
import Derived.Test.YtmggdnnffdaffaaDoorDCompare
import Derived.Test.YtmggdnnffdaffaaDoorMkF
import Derived.Test.YtmggdnnffdaffaaDoorMkE
namespace Go.Proofs.YtmggdnnffdaffaaDoor
section
open Go.RowKit

/-- Where the first c is; -1: nowhere. -/
def cIx (s : ByteArray) : Int := Lib.indexByte s.data.toList 99
set_option maxHeartbeats 1000000 in
set_option maxRecDepth 100000 in
theorem ixb_any (s : ByteArray) (w : World) : Calls Tryd.prog 77 #[.string s, .int .u8 99] w fun e w' => e = .returned (.int .i64 (cIx s)) ∧ w = w' := by
  have hx : ∀ w : World, (callFunc 81 #[.string s, .int .u8 99]).run Tryd.prog w = .ok (.value (.int .i64 (cIx s))) w := fun w => by
    rw [run_callFunc_extern Tryd.func81 (by kernel_rfl) (by kernel_rfl) (by kernel_rfl) (e := Extern.BytealgIndexByte.indexByte) (by kernel_rfl), Lib.run_indexByteString]
    rfl
  go_enter Tryd.func77, Tryd.ntmps77
  go_wp2
  go_ret
  exact ⟨rfl, rfl⟩
theorem cIx_bound {s : ByteArray} (h : 0 ≤ cIx s) : cIx s < s.size := by
  obtain ⟨o, ho⟩ : ∃ o : Nat, cIx s = (o : Int) := ⟨(cIx s).toNat, by omega⟩
  have h1 := (Lib.indexByte_some (l := s.data.toList) (c := 99) (o := o) ho).1
  have h2 := (List.getElem?_eq_some_iff.1 h1).1
  rw [ho]
  have e : s.data.toList.length = s.size := by simp
  omega
set_option maxHeartbeats 1000000 in
set_option maxRecDepth 100000 in
theorem index_c (s : ByteArray) (w : World) : Calls Tryd.prog 76 #[.string s, .string ⟨#[99]⟩] w fun e w' => e = .returned (.int .i64 (cIx s)) ∧ w = w' := by
  have D := Lib.hid (fun wx => ixb_any s wx)
  have t1 : (⟨#[99]⟩ : ByteArray).toList = [99] := by decide +kernel
  cases q : (([99] : List UInt8) == s.toList) with
  | true =>
    have e : s.data.toList = [99] := by
      rw [Lib.toList_data, beq_iff_eq] at q
      exact q.symm
    have h0 : cIx s = 0 := by unfold cIx; rw [e]; rfl
    rw [h0]
    go_enter Tryd.func76, Tryd.ntmps76
    go_wp2
    go_ret
    exact ⟨rfl, rfl⟩
  | false =>
    go_enter Tryd.func76, Tryd.ntmps76
    go_wp2_with fail
    refine (D.out _).mono ?_
    rintro e w' ⟨rfl, rfl⟩
    go_wp2
    go_ret
    exact ⟨rfl, rfl⟩
/-- What Cut hands back. -/
def cutA (s : ByteArray) : ByteArray := if 0 ≤ cIx s then s.extract 0 (cIx s).toNat else s
def cutE (s : ByteArray) : ByteArray := if 0 ≤ cIx s then s.extract ((cIx s).toNat + 1) s.size else ⟨#[]⟩
def cutK (s : ByteArray) : Bool := decide (0 ≤ cIx s)
set_option maxHeartbeats 2000000 in
set_option maxRecDepth 100000 in
theorem lcut_c (s : ByteArray) (w : World) (hs : s.size ≤ 140737488355328) : Calls Tryd.prog 73 #[.string s, .string ⟨#[99]⟩] w fun e w' => e = .returned (.tuple #[.string (cutA s), .string (cutE s), .bool (cutK s)]) ∧ Below w.heap.size w w' := by
  have D := Lib.hid (fun wx => index_c s wx)
  unfold cutA cutE cutK
  by_cases h : 0 ≤ cIx s
  · have hb := cIx_bound h
    rw [if_pos h, if_pos h, decide_eq_true h]
    obtain ⟨o, ho⟩ : ∃ o : Nat, cIx s = (o : Int) := ⟨(cIx s).toNat, by omega⟩
    rw [ho] at D hb ⊢
    rw [Int.toNat_natCast]
    have hb2 : o < s.size := by omega
    have c1 : (0 : Int) ≤ (o : Int) := by omega
    have c2 : (o : Int) ≤ (s.size : Int) := by omega
    have c3 : (0 : Int) ≤ (o : Int) + 1 := by omega
    have c4 : (o : Int) + 1 ≤ (s.size : Int) := by omega
    clear h ho hb
    go_enter Tryd.func73, Tryd.ntmps73
    go_wp2_with fail
    (with_reducible refine (D.out _).mono ?_)
    rintro e w' ⟨rfl, rfl⟩
    go_wp2
    go_region
    all_goals (try go_wp2)
    all_goals go_ret3
    all_goals exact ⟨rfl, (Below.refl _ _).drew⟩
  · have q : decide (0 ≤ cIx s) = false := decide_eq_false h
    rw [if_neg h, if_neg h, q]
    go_enter Tryd.func73, Tryd.ntmps73
    go_wp2_with fail
    (with_reducible refine (D.out _).mono ?_)
    rintro e w' ⟨rfl, rfl⟩
    go_wp2
    go_ret3
    exact ⟨rfl, Below.refl _ _⟩
set_option maxHeartbeats 1000000 in
set_option maxRecDepth 100000 in
theorem scut_c (s : ByteArray) (w : World) (hs : s.size ≤ 140737488355328) : Calls Tryd.prog 69 #[.string s, .string ⟨#[99]⟩] w fun e w' => e = .returned (.tuple #[.string (cutA s), .string (cutE s), .bool (cutK s)]) ∧ Below w.heap.size w w' := by
  have D := Lib.hid (fun wx => lcut_c s wx hs)
  go_enter Tryd.func69, Tryd.ntmps69
  go_wp2_with fail
  (with_reducible refine (D.out _).mono ?_)
  rintro e w' ⟨rfl, hb⟩
  have HB := Lib.hid hb
  clear hb
  go_wp2
  go_ret3
  exact ⟨rfl, HB.out⟩
theorem cut_sizes (s : ByteArray) : (cutA s).size ≤ s.size ∧ (cutE s).size ≤ s.size := by
  unfold cutA cutE
  constructor
  · split
    · rw [ByteArray.size_extract]; omega
    · exact Nat.le_refl _
  · split
    · rw [ByteArray.size_extract]; omega
    · exact Nat.zero_le _
end
section
open Go.RowKit

/-- May a text be an exponent? -/
def exB (s : ByteArray) : Bool := nuB s && decide (1 ≤ dVal (dN s.data.toList)) && decide (dVal (dN s.data.toList) ≤ 20)
set_option maxHeartbeats 2000000 in
set_option maxRecDepth 100000 in
theorem isExpR_core (s : ByteArray) (n e : Int) (b : Bool) (w : World) (H : ∀ wx : World, Calls Tryd.prog 74 #[.agg #[.bool false, .string s, .string ⟨#[]⟩]] wx fun r w' => r = .returned (.tuple #[.int .i64 n, .int .i64 e]) ∧ Below wx.heap.size wx w')
    (hb : ((e == 0) && decide (1 ≤ n) && decide (n ≤ 20)) = b) :
    Calls Tryd.prog 70 #[.string s] w fun e w' => e = .returned (.bool b) ∧ Below w.heap.size w w' := by
  have DW := Lib.hid (fun wx => rwhole_any s wx)
  have D := Lib.hid H
  clear H
  cases q1 : (e == 0) with
  | false =>
    rw [q1, Bool.false_and, Bool.false_and] at hb
    subst hb
    go_enter Tryd.func70, Tryd.ntmps70
    go_wp2_with fail
    (with_reducible refine (DW.out _).mono ?_)
    rintro e w1 ⟨rfl, hb1⟩
    have H1 := Lib.hid hb1
    clear hb1
    go_wp2_with fail
    (with_reducible refine (D.out _).mono ?_)
    rintro e w2 ⟨rfl, hb2⟩
    have H2 := Lib.hid (H1.out.trans (hb2.mono H1.out.size))
    clear hb2
    go_wp2
    go_ret
    exact ⟨rfl, H2.out⟩
  | true =>
    rw [q1, Bool.true_and] at hb
    cases q2 : decide (1 ≤ n) with
    | false =>
      rw [q2, Bool.false_and] at hb
      subst hb
      go_enter Tryd.func70, Tryd.ntmps70
      go_wp2_with fail
      (with_reducible refine (DW.out _).mono ?_)
      rintro e w1 ⟨rfl, hb1⟩
      have H1 := Lib.hid hb1
      clear hb1
      go_wp2_with fail
      (with_reducible refine (D.out _).mono ?_)
      rintro e w2 ⟨rfl, hb2⟩
      have H2 := Lib.hid (H1.out.trans (hb2.mono H1.out.size))
      clear hb2
      go_wp2
      go_ret
      exact ⟨rfl, H2.out⟩
    | true =>
      rw [q2, Bool.true_and] at hb
      go_enter Tryd.func70, Tryd.ntmps70
      go_wp2_with fail
      (with_reducible refine (DW.out _).mono ?_)
      rintro e w1 ⟨rfl, hb1⟩
      have H1 := Lib.hid hb1
      clear hb1
      go_wp2_with fail
      (with_reducible refine (D.out _).mono ?_)
      rintro e w2 ⟨rfl, hb2⟩
      have H2 := Lib.hid (H1.out.trans (hb2.mono H1.out.size))
      have HBB := Lib.hid hb
      clear hb2 hb
      go_wp2
      go_ret
      exact ⟨by rw [← HBB.out]; rfl, H2.out⟩
theorem isExpR_any (s : ByteArray) (w : World) (h : s.size ≤ 140737488355328) : Calls Tryd.prog 70 #[.string s] w fun e w' => e = .returned (.bool (exB s)) ∧ Below w.heap.size w w' := by
  cases hn : nuB s with
  | false =>
    refine isExpR_core s 0 20 (exB s) w (fun wx => int64_bad false s ⟨#[]⟩ wx h (by decide) hn) ?_
    unfold exB
    rw [hn]
    rfl
  | true =>
    obtain ⟨ho, he⟩ := num_form hn
    have K := fun wx => int64_false (litD (dN s.data.toList)) wx ho rfl
    have e1 : dStr (litD (dN s.data.toList)).i = s := he.symm
    have e2 : dStr (litD (dN s.data.toList)).f = ⟨#[]⟩ := rfl
    simp only [e1, e2] at K
    refine isExpR_core s _ _ (exB s) w K ?_
    unfold exB i64V i64C
    rw [hn, Bool.true_and]
    by_cases hf : dVal (litD (dN s.data.toList)).i ≤ mostN (litD (dN s.data.toList)).neg
    · have hfit : fits (litD (dN s.data.toList)) = true := fits_yes (show zrB ⟨#[]⟩ = true by decide +kernel) hf
      rw [if_pos hfit, if_pos hfit, if_neg (by show ¬ false = true; decide)]
      show ((0 : Int) == 0 && decide ((1 : Int) ≤ (dVal (dN s.data.toList) : Int)) && decide ((dVal (dN s.data.toList) : Int) ≤ 20)) = _
      rw [show ((0 : Int) == 0) = true from rfl, Bool.true_and]
      congr 1
      · rw [decide_eq_decide]; omega
      · rw [decide_eq_decide]; omega
    · have hfit : fits (litD (dN s.data.toList)) = false := fits_big (by omega)
      rw [if_neg (by rw [hfit]; decide), if_neg (by rw [hfit]; decide)]
      have : ¬ dVal (dN s.data.toList) ≤ 20 := by
        intro h20
        apply hf
        show dVal (dN s.data.toList) ≤ 9223372036854775807
        omega
      rw [decide_eq_false this, Bool.and_false]
      rfl
end
section
open Go.RowKit

/-- May a text be a sample's number, with a point or without one? -/
def vaB (s : ByteArray) (p : Bool) : Bool := (psE (cutA s) == 0) && !(psN (cutA s)) && ((!(psF (cutA s)).toList.isEmpty) == p) && (!(cutK s) || exB (cutE s))
theorem ps_sizes (s : ByteArray) (h : s.size ≤ 140737488355328) : (psF s).size ≤ 140737488355328 ∧ (psI s).size ≤ 140737488355328 := by
  have none_ : ∀ e : Int, psR s = (⟨false, [], []⟩, e) → (psF s).size ≤ 140737488355328 ∧ (psI s).size ≤ 140737488355328 := fun e h => by
    unfold psF psI
    rw [h]
    exact ⟨by show (0 : Nat) ≤ _; omega, by show (0 : Nat) ≤ _; omega⟩
  by_cases hl : 65536 < s.size
  · exact none_ 2 (ps_long s hl)
  · have hp := ps_cut s hl
    obtain ⟨z1, z2⟩ := sp_sizes s
    by_cases c : (spK (spT s) && formB (spN s) (spI (spT s)) (spF (spT s))) = true
    · rw [if_pos c] at hp
      by_cases c2 : 40 < (spI (spT s)).data.toList.length + (spF (spT s)).data.toList.length
      · rw [if_pos c2] at hp; exact none_ 3 hp
      · rw [if_neg c2] at hp
        unfold psF psI
        rw [hp]
        constructor
        · show (spF (spT s)).data.toList.toArray.size ≤ _
          have : (spF (spT s)).data.toList.toArray.size = (spF (spT s)).size := by simp
          omega
        · show (spI (spT s)).data.toList.toArray.size ≤ _
          have : (spI (spT s)).data.toList.toArray.size = (spI (spT s)).size := by simp
          omega
    · rw [if_neg c] at hp; exact none_ 20 hp
/-- A decimal of its three parts. -/
def dcO (n : Bool) (i f : ByteArray) : Dc := ⟨n, dN i.data.toList, dN f.data.toList⟩
theorem dcO_eq {d : Dc} (h : d.Ok) : dcO d.neg (dStr d.i) (dStr d.f) = d := by
  unfold dcO
  have e1 : dN (dStr d.i).data.toList = d.i := by rw [dStr_toList]; exact dN_dB h.di
  have e2 : dN (dStr d.f).data.toList = d.f := by rw [dStr_toList]; exact dN_dB h.df
  rw [e1, e2]
/-- What Compare tells of whatever is handed in. -/
def cmO (na : Bool) (ia fa : ByteArray) (nb : Bool) (ib fb : ByteArray) : Int × Int := if (okB na ia fa && okB nb ib fb) = true then (cmpD (dcO na ia fa) (dcO nb ib fb), 0) else (0, 20)
theorem compareR_any (na nb : Bool) (ia fa ib fb : ByteArray) (w : World) (h1 : ia.size ≤ 140737488355328) (h2 : fa.size ≤ 140737488355328) (h3 : ib.size ≤ 140737488355328) (h4 : fb.size ≤ 140737488355328) :
    Calls Tryd.prog 13 #[.agg #[.bool na, .string ia, .string fa], .agg #[.bool nb, .string ib, .string fb]] w fun e w' => e = .returned (.tuple #[.int .i64 (cmO na ia fa nb ib fb).1, .int .i64 (cmO na ia fa nb ib fb).2]) ∧ Below w.heap.size w w' := by
  unfold cmO
  cases ha : okB na ia fa with
  | false => exact compare_bad1 na nb ia fa ib fb w h1 h2 ha
  | true =>
    cases hb : okB nb ib fb with
    | false => exact compare_bad2 na nb ia fa ib fb w h1 h2 h3 h4 ha hb
    | true =>
      obtain ⟨a, hao, rfl, rfl, rfl⟩ := ok_cases ha
      obtain ⟨b, hbo, rfl, rfl, rfl⟩ := ok_cases hb
      rw [if_pos (show (true && true) = true from rfl), dcO_eq hao, dcO_eq hbo]
      exact compare_ok a b w hao hbo

set_option maxHeartbeats 4000000 in
set_option maxRecDepth 100000 in
theorem isValueR_any (s : ByteArray) (p : Bool) (w : World) (h : s.size ≤ 140737488355328) : Calls Tryd.prog 62 #[.string s, .bool p] w fun e w' => e = .returned (.bool (vaB s p)) ∧ Below w.heap.size w w' := by
  obtain ⟨h1, h2⟩ := cut_sizes s
  have DC := Lib.hid (fun wx => scut_c s wx h)
  have DP := Lib.hid (fun wx => parse_any (cutA s) wx (by unfold maxLen; omega))
  have DE := Lib.hid (fun wx => isExpR_any (cutE s) wx (by omega))
  have hf : (psF (cutA s)).toList.isEmpty = decide ((psF (cutA s)).toList = []) := by
    cases (psF (cutA s)).toList <;> rfl
  unfold vaB
  generalize cutA s = a at *
  generalize psN a = dn at *
  generalize psI a = di at *
  generalize psF a = df at *
  generalize psE a = de at *
  generalize exB (cutE s) = xb at *
  generalize cutE s = ce at *
  generalize cutK s = kb at *
  clear h h1 h2
  have fin : ∀ b : Bool, (if de = 0 then (if dn = true then false else if (!df.toList.isEmpty) = p then (if kb = true then xb else true) else false) else false) = b → Calls Tryd.prog 62 #[.string s, .bool p] w fun e w' => e = .returned (.bool b) ∧ Below w.heap.size w w' := by
    intro b hb
    clear hf
    by_cases q0 : de = 0
    · subst q0
      rw [if_pos rfl] at hb
      cases dn
      all_goals cases qf : df.toList.isEmpty
      all_goals cases p
      all_goals cases kb
      all_goals rw [qf] at hb
      all_goals simp only [if_true, if_false, Bool.not_false, Bool.not_true, Bool.false_eq_true, reduceCtorEq] at hb
      all_goals subst hb
      all_goals first
          | (have nf : df.toList = [] := List.isEmpty_iff.1 qf)
          | (have nf : ¬ df.toList = [] := fun h => by rw [h] at qf; cases qf)
      all_goals
        go_enter Tryd.func62, Tryd.ntmps62
        go_wp2_with fail
        (with_reducible refine (DC.out _).mono ?_)
        rintro e w1 ⟨rfl, hb1⟩
        have H1 := Lib.hid hb1
        clear hb1
        go_wp2_with fail
        (with_reducible refine (DP.out _).mono ?_)
        rintro e w2 ⟨rfl, hb2⟩
        have H2 := Lib.hid (H1.out.trans (hb2.mono H1.out.size))
        clear hb2
        first
          | (go_wp2; go_ret; exact ⟨rfl, H2.out.alloc H2.out.size _⟩)
          | (go_wp2_with fail
             (with_reducible refine (DE.out _).mono ?_)
             rintro e w3 ⟨rfl, hb3⟩
             have H4 := Lib.hid ((H2.out.alloc H2.out.size _).trans (hb3.mono (Nat.le_trans H2.out.size (by simp))))
             clear hb3
             go_wp2
             go_ret
             exact ⟨rfl, H4.out⟩)
    · have q1 : (de == 0) = false := beq_eq_false_iff_ne.2 q0
      rw [if_neg q0] at hb
      subst hb
      cases dn
      all_goals
        go_enter Tryd.func62, Tryd.ntmps62
        go_wp2_with fail
        (with_reducible refine (DC.out _).mono ?_)
        rintro e w1 ⟨rfl, hb1⟩
        have H1 := Lib.hid hb1
        clear hb1
        go_wp2_with fail
        (with_reducible refine (DP.out _).mono ?_)
        rintro e w2 ⟨rfl, hb2⟩
        have H2 := Lib.hid (H1.out.trans (hb2.mono H1.out.size))
        clear hb2
        go_wp2
        go_ret
        exact ⟨rfl, H2.out.alloc H2.out.size _⟩
  apply fin
  by_cases q0 : de = 0
  · subst q0
    cases dn <;> cases df.toList.isEmpty <;> cases p <;> cases kb <;> cases xb <;> rfl
  · rw [if_neg q0, beq_eq_false_iff_ne.2 q0]
    rfl

/-- May a range lead from one number to another one? -/
def raB (lo hi : ByteArray) : Bool := ((cmO (psN lo) (psI lo) (psF lo) (psN hi) (psI hi) (psF hi)).2 == 0) && decide ((cmO (psN lo) (psI lo) (psF lo) (psN hi) (psI hi) (psF hi)).1 < 0) && (((psF lo).size : Int) == ((psF hi).size : Int))
set_option maxHeartbeats 4000000 in
set_option maxRecDepth 100000 in
theorem isRangeR_any (lo hi : ByteArray) (w : World) (h1 : lo.size ≤ 140737488355328) (h2 : hi.size ≤ 140737488355328) : Calls Tryd.prog 63 #[.string lo, .string hi] w fun e w' => e = .returned (.bool (raB lo hi)) ∧ Below w.heap.size w w' := by
  have D1 := Lib.hid (fun wx => parse_any lo wx (by unfold maxLen; omega))
  have D2 := Lib.hid (fun wx => parse_any hi wx (by unfold maxLen; omega))
  have DC := Lib.hid (fun wx => compareR_any (psN lo) (psN hi) (psI lo) (psF lo) (psI hi) (psF hi) wx (ps_sizes lo h1).2 (ps_sizes lo h1).1 (ps_sizes hi h2).2 (ps_sizes hi h2).1)
  unfold raB
  generalize cmO (psN lo) (psI lo) (psF lo) (psN hi) (psI hi) (psF hi) = y at *
  obtain ⟨c, e⟩ := y
  simp only at DC ⊢
  have z1 := (ps_sizes lo h1).1
  have z2 := (ps_sizes hi h2).1
  generalize psN lo = n1 at *
  generalize psI lo = i1 at *
  generalize psF lo = f1 at *
  generalize psE lo = e1 at *
  generalize psN hi = n2 at *
  generalize psI hi = i2 at *
  generalize psF hi = f2 at *
  generalize psE hi = e2 at *
  clear h1 h2
  by_cases q0 : e = 0
  · subst q0
    cases q2 : decide (c < 0) with
    | false =>
      rw [show ((0 : Int) == 0) = true from rfl, Bool.true_and, Bool.false_and]
      go_enter Tryd.func63, Tryd.ntmps63
      go_wp2_with fail
      (with_reducible refine (D1.out _).mono ?_)
      rintro r w1 ⟨rfl, hb1⟩
      have X1 := Lib.hid (one_box w1 (.bool n1) (.string i1) (.string f1) 27).2.1
      have H1 := Lib.hid (hb1.alloc hb1.size (.cells #[.bool n1, .string i1, .string f1] 27))
      have z3 : w1.heap.size < (w1.alloc (.cells #[.bool n1, .string i1, .string f1] 27)).heap.size := by simp
      clear hb1
      go_wp2_with fail
      generalize w1.alloc (.cells #[.bool n1, .string i1, .string f1] 27) = v1 at *
      (with_reducible refine (D2.out _).mono ?_)
      rintro r w2 ⟨rfl, hb2⟩
      have X2 := (X1.out.keep hb2 z3)
      have z4 : w1.heap.size < w2.heap.size := Nat.lt_of_lt_of_le z3 hb2.size
      have Y2 := Lib.hid (one_box w2 (.bool n2) (.string i2) (.string f2) 27).2.1
      have b3 : Below w2.heap.size w2 (w2.alloc (.cells #[.bool n2, .string i2, .string f2] 27)) := (Below.refl _ _).alloc (Nat.le_refl _) _
      have X3 := Lib.hid (X2.keep b3 z4)
      have H3 := Lib.hid ((H1.out.trans (hb2.mono H1.out.size)).trans (b3.mono (Nat.le_trans H1.out.size hb2.size)))
      have z5 : w2.heap.size < (w2.alloc (.cells #[.bool n2, .string i2, .string f2] 27)).heap.size := by simp
      have z6 : w1.heap.size < (w2.alloc (.cells #[.bool n2, .string i2, .string f2] 27)).heap.size := Nat.lt_trans z4 z5
      clear hb2 b3 X2
      obtain ⟨x0, x1, x2⟩ := X3.out
      obtain ⟨y0, y1, y2⟩ := Y2.out
      go_wp2_with fail
      generalize w2.alloc (.cells #[.bool n2, .string i2, .string f2] 27) = v2 at *
      (with_reducible refine (DC.out _).mono ?_)
      rintro r w3 ⟨rfl, hb3⟩
      have H4 := Lib.hid (H3.out.trans (hb3.mono H3.out.size))
      have X4 := X3.out.keep hb3 z6
      have Y4 := Y2.out.keep hb3 z5
      clear hb3 x0 x1 x2 y0 y1 y2
      obtain ⟨x0, x1, x2⟩ := X4
      obtain ⟨y0, y1, y2⟩ := Y4
      go_wp2
      go_ret
      exact ⟨rfl, H4.out⟩
    | true =>
      cases q3 : ((f1.size : Int) == (f2.size : Int))
      all_goals
        rw [show ((0 : Int) == 0) = true from rfl, Bool.true_and, Bool.true_and]
        go_enter Tryd.func63, Tryd.ntmps63
        go_wp2_with fail
        (with_reducible refine (D1.out _).mono ?_)
        rintro r w1 ⟨rfl, hb1⟩
        have X1 := Lib.hid (one_box w1 (.bool n1) (.string i1) (.string f1) 27).2.1
        have H1 := Lib.hid (hb1.alloc hb1.size (.cells #[.bool n1, .string i1, .string f1] 27))
        have z3 : w1.heap.size < (w1.alloc (.cells #[.bool n1, .string i1, .string f1] 27)).heap.size := by simp
        clear hb1
        go_wp2_with fail
        generalize w1.alloc (.cells #[.bool n1, .string i1, .string f1] 27) = v1 at *
        (with_reducible refine (D2.out _).mono ?_)
        rintro r w2 ⟨rfl, hb2⟩
        have X2 := (X1.out.keep hb2 z3)
        have z4 : w1.heap.size < w2.heap.size := Nat.lt_of_lt_of_le z3 hb2.size
        have Y2 := Lib.hid (one_box w2 (.bool n2) (.string i2) (.string f2) 27).2.1
        have b3 : Below w2.heap.size w2 (w2.alloc (.cells #[.bool n2, .string i2, .string f2] 27)) := (Below.refl _ _).alloc (Nat.le_refl _) _
        have X3 := Lib.hid (X2.keep b3 z4)
        have H3 := Lib.hid ((H1.out.trans (hb2.mono H1.out.size)).trans (b3.mono (Nat.le_trans H1.out.size hb2.size)))
        have z5 : w2.heap.size < (w2.alloc (.cells #[.bool n2, .string i2, .string f2] 27)).heap.size := by simp
        have z6 : w1.heap.size < (w2.alloc (.cells #[.bool n2, .string i2, .string f2] 27)).heap.size := Nat.lt_trans z4 z5
        clear hb2 b3 X2
        obtain ⟨x0, x1, x2⟩ := X3.out
        obtain ⟨y0, y1, y2⟩ := Y2.out
        go_wp2_with fail
        generalize w2.alloc (.cells #[.bool n2, .string i2, .string f2] 27) = v2 at *
        (with_reducible refine (DC.out _).mono ?_)
        rintro r w3 ⟨rfl, hb3⟩
        have H4 := Lib.hid (H3.out.trans (hb3.mono H3.out.size))
        have X4 := X3.out.keep hb3 z6
        have Y4 := Y2.out.keep hb3 z5
        clear hb3 x0 x1 x2 y0 y1 y2
        obtain ⟨x0, x1, x2⟩ := X4
        obtain ⟨y0, y1, y2⟩ := Y4
        go_wp2
        go_ret
        exact ⟨rfl, H4.out⟩
  · have q1 : (e == 0) = false := beq_eq_false_iff_ne.2 q0
    rw [q1, Bool.false_and, Bool.false_and]
    go_enter Tryd.func63, Tryd.ntmps63
    go_wp2_with fail
    (with_reducible refine (D1.out _).mono ?_)
    rintro r w1 ⟨rfl, hb1⟩
    have X1 := Lib.hid (one_box w1 (.bool n1) (.string i1) (.string f1) 27).2.1
    have H1 := Lib.hid (hb1.alloc hb1.size (.cells #[.bool n1, .string i1, .string f1] 27))
    have z3 : w1.heap.size < (w1.alloc (.cells #[.bool n1, .string i1, .string f1] 27)).heap.size := by simp
    clear hb1
    go_wp2_with fail
    generalize w1.alloc (.cells #[.bool n1, .string i1, .string f1] 27) = v1 at *
    (with_reducible refine (D2.out _).mono ?_)
    rintro r w2 ⟨rfl, hb2⟩
    have X2 := (X1.out.keep hb2 z3)
    have z4 : w1.heap.size < w2.heap.size := Nat.lt_of_lt_of_le z3 hb2.size
    have Y2 := Lib.hid (one_box w2 (.bool n2) (.string i2) (.string f2) 27).2.1
    have b3 : Below w2.heap.size w2 (w2.alloc (.cells #[.bool n2, .string i2, .string f2] 27)) := (Below.refl _ _).alloc (Nat.le_refl _) _
    have X3 := Lib.hid (X2.keep b3 z4)
    have H3 := Lib.hid ((H1.out.trans (hb2.mono H1.out.size)).trans (b3.mono (Nat.le_trans H1.out.size hb2.size)))
    have z5 : w2.heap.size < (w2.alloc (.cells #[.bool n2, .string i2, .string f2] 27)).heap.size := by simp
    have z6 : w1.heap.size < (w2.alloc (.cells #[.bool n2, .string i2, .string f2] 27)).heap.size := Nat.lt_trans z4 z5
    clear hb2 b3 X2
    obtain ⟨x0, x1, x2⟩ := X3.out
    obtain ⟨y0, y1, y2⟩ := Y2.out
    go_wp2_with fail
    generalize w2.alloc (.cells #[.bool n2, .string i2, .string f2] 27) = v2 at *
    (with_reducible refine (DC.out _).mono ?_)
    rintro r w3 ⟨rfl, hb3⟩
    have H4 := Lib.hid (H3.out.trans (hb3.mono H3.out.size))
    have X4 := X3.out.keep hb3 z6
    have Y4 := Y2.out.keep hb3 z5
    clear hb3 x0 x1 x2 y0 y1 y2
    obtain ⟨x0, x1, x2⟩ := X4
    obtain ⟨y0, y1, y2⟩ := Y4
    go_wp2
    go_ret
    exact ⟨rfl, H4.out⟩

/-- May a sample be? -/
def smB (x : ByteArray × ByteArray) (p : Bool) : Bool := vaB x.1 p && ((x.2.toList == x.1.toList) || raB x.1 x.2)
set_option maxHeartbeats 4000000 in
set_option maxRecDepth 100000 in
theorem isSampleR_any (lo hi : ByteArray) (p : Bool) (w : World) (h1 : lo.size ≤ 140737488355328) (h2 : hi.size ≤ 140737488355328) : Calls Tryd.prog 51 #[.agg #[.string lo, .string hi], .bool p] w fun e w' => e = .returned (.bool (smB (lo, hi) p)) ∧ Below w.heap.size w w' := by
  have D1 := Lib.hid (fun wx => isValueR_any lo p wx h1)
  have D2 := Lib.hid (fun wx => isRangeR_any lo hi wx h1 h2)
  unfold smB
  simp only
  generalize vaB lo p = a at *
  generalize raB lo hi = b at *
  have z1 : w.heap.size < (w.alloc (.cells #[.string lo, .string hi] 93)).heap.size := by simp
  have C1 := Lib.hid (two_box w (.string lo) (.string hi) 93)
  have H1 := Lib.hid ((Below.refl _ w).alloc (Nat.le_refl _) (.cells #[.string lo, .string hi] 93))
  clear h1 h2
  obtain ⟨x0, x1⟩ := C1.out
  cases a
  all_goals cases q : (hi.toList == lo.toList)
  all_goals
    go_enter Tryd.func51, Tryd.ntmps51
    go_wp2_with fail
    (with_reducible refine (D1.out _).mono ?_)
    rintro e w2 ⟨rfl, hb2⟩
    have H2 := Lib.hid (H1.out.trans (hb2.mono H1.out.size))
    have y0 := (hb2.cell (p := ⟨w.heap.size, 0, none⟩) z1).trans x0
    have y1 := (hb2.cell (p := ⟨w.heap.size, 1, none⟩) z1).trans x1
    clear hb2 x0 x1
    first
      | (go_wp2; go_ret; exact ⟨rfl, H2.out⟩)
      | (go_wp2_with fail
         (with_reducible refine (D2.out _).mono ?_)
         rintro e w3 ⟨rfl, hb3⟩
         have H3 := Lib.hid (H2.out.trans (hb3.mono H2.out.size))
         clear hb3
         go_wp2
         go_ret
         exact ⟨rfl, H3.out⟩)
end
section
open Go.RowKit

/-- What is wrong with samples, from the k-th on. -/
def smE (p : Bool) : List (ByteArray × ByteArray) → Nat → Int
  | [], _ => 0
  | x :: l, k => if k = 64 then 5 else if smB x p = true then smE p l (k + 1) else 50
theorem smE_cons (p : Bool) (x : ByteArray × ByteArray) (l : List (ByteArray × ByteArray)) (k : Nat) : smE p (x :: l) k = if k = 64 then 5 else if smB x p = true then smE p l (k + 1) else 50 := rfl
set_option maxHeartbeats 4000000 in
set_option maxRecDepth 100000 in
theorem samples_any (p : Bool) (x : Sg) : CkS p x (smE p x.l 0) := by
  intro w hL
  obtain ⟨ad, n, cap, l⟩ := x
  have HS := Lib.hid hL
  have hmost := hL.most
  have HL := Lib.hid hL.len
  unfold Sg.v
  simp only at *
  clear hL
  go_enter Tryd.func39, Tryd.ntmps39
  go_wp2
  go_loopw [9] (fun i wr => ∃ k : Nat, i = .int .i64 k ∧ k ≤ n ∧ Hid (smE p (l.drop k) k = smE p l 0) ∧ Below w.heap.size w wr) (fun i _ => n - (intOf i).toNat)
  case atStart => exact ⟨0, rfl, by omega, Lib.hid (by simp), Below.refl _ _⟩
  case round =>
    obtain ⟨k, rfl, hk, HE, hbw⟩ := hrel
    have HW := Lib.hid hbw
    have hz := hbw.size
    clear hbw
    by_cases hlt : k < n
    · have hlt2 : ((k : Int) < (n : Int)) := by omega
      obtain ⟨g, off, had, hg, hA⟩ := (HS.out.keep HW.out).at_ (by omega)
      obtain ⟨c0, c1⟩ := hA k (by rw [HL.out]; exact hlt)
      have hsz := HS.out.sz k
      have ed := drop_cons l k dq (by rw [HL.out]; exact hlt)
      have HE2 := HE.out
      rw [ed, smE_cons] at HE2
      generalize l.getD k dq = x at *
      obtain ⟨lo, hi⟩ := x
      have DS := Lib.hid (fun wx => isSampleR_any lo hi p wx hsz.1 hsz.2)
      simp only at c0 c1
      clear hA hsz ed
      subst had
      by_cases h64 : k = 64
      · rw [if_pos h64] at HE2
        have HE3 := Lib.hid HE2
        subst h64
        clear HE2
        go_wp2
        go_ret
        exact ⟨ret_intR HE3.out, HW.out.alloc HW.out.size _⟩
      · rw [if_neg h64] at HE2
        have q64 : ((k : Int) == 64) = false := beq_eq_false_iff_ne.2 (by omega)
        obtain ⟨s0, s1⟩ := two_box wr (.string lo) (.string hi) 93
        have hbV : Below wr.heap.size wr (wr.alloc (.cells #[.string lo, .string hi] 93)) := (Below.refl _ _).alloc (Nat.le_refl _) _
        have HBV := Lib.hid hbV
        clear hbV
        cases hq : smB (lo, hi) p with
        | true =>
          rw [hq] at DS
          rw [hq, if_pos rfl] at HE2
          have HE3 := Lib.hid HE2
          clear HE2
          go_wp2_with fail
          (with_reducible refine (DS.out _).mono ?_)
          rintro e w5 ⟨rfl, hb5⟩
          have H5 := Lib.hid (HW.out.trans ((HBV.out.trans (hb5.mono HBV.out.size)).mono hz))
          clear hb5 s0 s1
          go_wp2
          go_roundw
          case rel => exact ⟨k + 1, by go_num, by omega, HE3, H5.out⟩
          case measure => simp [intOf]; omega
        | false =>
          rw [hq] at DS
          rw [hq, if_neg (by decide)] at HE2
          have HE3 := Lib.hid HE2
          clear HE2
          go_wp2_with fail
          (with_reducible refine (DS.out _).mono ?_)
          rintro e w5 ⟨rfl, hb5⟩
          have H5 := Lib.hid (HW.out.trans ((HBV.out.trans (hb5.mono HBV.out.size)).mono hz))
          clear hb5 s0 s1
          go_wp2
          go_ret
          exact ⟨ret_intR HE3.out, H5.out⟩
    · have hlt2 : ¬ ((k : Int) < (n : Int)) := by omega
      go_wp2
      go_ret
      refine ⟨ret_intR ?_, HW.out⟩
      rw [← HE.out, List.drop_eq_nil_of_le (by rw [HL.out]; omega)]
      rfl
/-- What is wrong with a rule. -/
def ckT (x : Ru) : Int := ruE x (smE false x.si.l 0) (smE true x.sd.l 0)
/-- The program's Check of any rule. -/
theorem check_rule (x : Ru) (w : World) (hX : RuG w x) : Calls Tryd.prog 20 #[x.v] w fun e w' => e = .returned (.int .i64 (ckT x)) ∧ Below w.heap.size w w' :=
  rcheck_any x _ _ w hX (samples_any false x.si) (samples_any true x.sd)
end
section
open Go.RowKit

theorem named_one (W : World) (x : Ru) (hX : RuG W x) (t : TypeId) :
    SetG (W.alloc (.cells #[.int .i64 0, .slice x.ad x.n x.cap, x.si.v, x.sd.v, .bool x.mi, .bool x.md] t)) (some ⟨W.heap.size, 0, none⟩) 1 [⟨0, x⟩] := by
  have b := (Below.refl W.heap.size W).alloc (Nat.le_refl _) (.cells #[.int .i64 0, .slice x.ad x.n x.cap, x.si.v, x.sd.v, .bool x.mi, .bool x.md] t)
  have X := bx6_new W (.int .i64 0) (.slice x.ad x.n x.cap) x.si.v x.sd.v (.bool x.mi) (.bool x.md) t
  refine ⟨rfl, by decide, fun _ => ⟨W.heap.size, 0, rfl, X.lt, fun k hk => ?_⟩⟩
  have : k = 0 := by omega
  subst this
  exact ⟨X.c0, X.c1, X.c2, X.c3, X.c4, X.c5, hX.keep b⟩
theorem ret_hold {a b : Bool} {c : Int} (h : a = b) : Ending.returned (.tuple #[.bool a, .int .i64 c]) = .returned (.tuple #[.bool b, .int .i64 c]) := by rw [h]

set_option maxHeartbeats 4000000 in
set_option maxRecDepth 100000 in
theorem Holds_any (x : Ru) (o : Op9) (hb : Rl → Bool) (w : World) (hX : RuG w x) (hO : ∀ wx : World, Calls Tryd.prog 21 #[o.v] wx fun e w' => e = .returned (.int .i64 0) ∧ Below wx.heap.size wx w')
    (hI : ckT x = 0 → ∀ a ∈ x.l, ∀ r ∈ a.l, InR o hb r) :
    Calls Tryd.prog 8 #[x.v, o.v] w fun e w' => e = .returned (.tuple #[.bool (if ckT x = 0 then holdN hb ⟨0, x⟩ else false), .int .i64 (ckT x)]) ∧ Below w.heap.size w w' := by
  have HX := Lib.hid hX
  have D1 := Lib.hid (fun wx (hx : Below w.heap.size w wx) => check_rule x wx (hX.keep hx))
  have D2 := Lib.hid hO
  have D3 := Lib.hid (fun (h0 : ckT x = 0) wx (hx : Below w.heap.size w wx) => first_any o hb (some ⟨wx.heap.size, 0, none⟩) 1 1 [⟨0, x⟩] _ (fun y hy a ha r hr => by
    obtain rfl := List.mem_singleton.1 hy
    exact hI h0 a ha r hr) (named_one wx x (hX.keep hx) 50))
  clear hX hO hI
  have hix : ([⟨0, x⟩] : List Nm).findIdx (holdN hb) = if holdN hb ⟨0, x⟩ = true then 0 else 1 := by
    rw [List.findIdx_cons]
    cases holdN hb ⟨0, x⟩ <;> rfl
  rw [hix] at D3
  generalize ckT x = c at *
  generalize holdN hb ⟨0, x⟩ = hh at *
  obtain ⟨ad, n, cap, l, ⟨a1, n1, c1, l1⟩, ⟨a2, n2, c2, l2⟩, mi, md⟩ := x
  obtain ⟨oa, ob, oc, od, oe, of, og, oh, oi⟩ := o
  unfold Ru.v at *
  unfold Op9.v Sg.v at *
  simp only at *
  clear hix
  have b0 : Below w.heap.size w (w.alloc (.cells #[.slice ad n cap, .slice a1 n1 c1, .slice a2 n2 c2, .bool mi, .bool md] 25)) := (Below.refl _ _).alloc (Nat.le_refl _) _
  have x0 := bq5_new w (.slice ad n cap) (.slice a1 n1 c1) (.slice a2 n2 c2) (.bool mi) (.bool md) 25
  have z0 : (w.alloc (.cells #[.slice ad n cap, .slice a1 n1 c1, .slice a2 n2 c2, .bool mi, .bool md] 25)).heap.size = w.heap.size + 1 := by simp
  obtain ⟨V0, hV0⟩ : ∃ V0, V0 = w.alloc (.cells #[.slice ad n cap, .slice a1 n1 c1, .slice a2 n2 c2, .bool mi, .bool md] 25) := ⟨_, rfl⟩
  rw [← hV0] at b0 x0 z0
  have b1 : Below V0.heap.size V0 (V0.alloc (.cells #[.bool oa, .string ob, .string oc, .string od, .int .i64 oe, .int .i64 of, .string og, .string oh, .int .i64 oi] 30)) := (Below.refl _ _).alloc (Nat.le_refl _) _
  have y0 := bx9_new V0 (.bool oa) (.string ob) (.string oc) (.string od) (.int .i64 oe) (.int .i64 of) (.string og) (.string oh) (.int .i64 oi) 30
  rw [z0] at y0
  have XR := Lib.hid (x0.keep b1)
  have YO := Lib.hid y0
  have HB := Lib.hid (b0.trans (b1.mono b0.size))
  have HV : Hid ((w.alloc (.cells #[.slice ad n cap, .slice a1 n1 c1, .slice a2 n2 c2, .bool mi, .bool md] 25)).alloc (.cells #[.bool oa, .string ob, .string oc, .string od, .int .i64 oe, .int .i64 of, .string og, .string oh, .int .i64 oi] 30) = V0.alloc (.cells #[.bool oa, .string ob, .string oc, .string od, .int .i64 oe, .int .i64 of, .string og, .string oh, .int .i64 oi] 30)) := Lib.hid (by rw [hV0])
  clear hV0 b0 x0 z0 b1 y0
  generalize V0.alloc (.cells #[.bool oa, .string ob, .string oc, .string od, .int .i64 oe, .int .i64 of, .string og, .string oh, .int .i64 oi] 30) = V1 at *
  by_cases q0 : c = 0
  · subst q0
    rw [if_pos rfl]
    have D4 := Lib.hid (D3.out rfl)
    cases hh
    all_goals first | rw [if_pos rfl] at D4 | rw [if_neg (by decide)] at D4
    all_goals
      go_enter Tryd.func8, Tryd.ntmps8
      go_wp2_with fail
      rw [HV.out]
      (with_reducible refine (D1.out _ HB.out).mono ?_)
      rintro e w1 ⟨rfl, hb1⟩
      have H1 := Lib.hid (HB.out.trans (hb1.mono HB.out.size))
      have X1 := Lib.hid (XR.out.keep hb1)
      have Y1 := Lib.hid (YO.out.keep hb1)
      clear hb1
      obtain ⟨f0, f1, f2, f3, f4, f5, f6, f7, f8, -⟩ := Y1.out
      go_wp2_with fail
      clear f0 f1 f2 f3 f4 f5 f6 f7 f8
      (with_reducible refine (D2.out _).mono ?_)
      rintro e w2 ⟨rfl, hb2⟩
      have H2 := Lib.hid (H1.out.trans (hb2.mono H1.out.size))
      have X2 := Lib.hid (X1.out.keep hb2)
      have Y2 := Lib.hid (Y1.out.keep hb2)
      have b3 : Below w2.heap.size w2 (w2.alloc (.cells #[.int .i64 0, .slice ad n cap, .slice a1 n1 c1, .slice a2 n2 c2, .bool mi, .bool md] 50)) := (Below.refl _ _).alloc (Nat.le_refl _) _
      have Y3 := Lib.hid (Y2.out.keep b3)
      have B3 := Lib.hid (H2.out.trans (b3.mono H2.out.size))
      have D5 := Lib.hid (D4.out w2 H2.out)
      clear hb2 b3
      obtain ⟨e0, e1, e2, e3, e4, -⟩ := X2.out
      obtain ⟨f0, f1, f2, f3, f4, f5, f6, f7, f8, -⟩ := Y3.out
      obtain ⟨g0, g1, g2, g3, g4, g5, g6, g7, g8, -⟩ := Y2.out
      go_wp2_with fail
      (with_reducible refine D5.out.mono ?_)
      rintro e w3 ⟨rfl, hb3⟩
      have H3 := Lib.hid (B3.out.trans (hb3.mono B3.out.size))
      clear hb3
      go_wp2
      go_ret2
      exact ⟨rfl, H3.out⟩
  · have q1 : (c == 0) = false := beq_eq_false_iff_ne.2 q0
    rw [if_neg q0]
    go_enter Tryd.func8, Tryd.ntmps8
    go_wp2_with fail
    rw [HV.out]
    (with_reducible refine (D1.out _ HB.out).mono ?_)
    rintro e w1 ⟨rfl, hb1⟩
    have H1 := Lib.hid (HB.out.trans (hb1.mono HB.out.size))
    clear hb1
    go_wp2
    go_ret2
    exact ⟨rfl, H1.out⟩
end
end Go.Proofs.YtmggdnnffdaffaaDoor
