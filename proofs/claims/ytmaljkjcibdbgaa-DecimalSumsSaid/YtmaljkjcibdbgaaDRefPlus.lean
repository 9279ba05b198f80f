/- The reference's Plus. -/
import Derived.Test.YtmaljkjcibdbgaaDRefMinus
namespace Go.Proofs.Ytmaljkjcibdbgaa
open Go.RowKit
attribute [local go_sem ↓] Go.wp_at_zero Go.wp_at_succ

set_option maxHeartbeats 4000000 in
set_option maxRecDepth 100000 in
theorem refPlus_any (x y : Nat) (w : World) (hx : (digs x).length ≤ 100000) (hy : (digs y).length ≤ 100000) :
    Calls Try.prog 92 #[.string (dStr (digs x)), .string (dStr (digs y))] w fun r w' => r = .returned (.string (dStr (digs (x + y)))) ∧ Below w.heap.size w w' := by
  have DA := Lib.hid (fun i wx (hi : i ≤ 1000000) => refAt_any (digs x) i wx (digs_digs x) (by omega) hi)
  have DB := Lib.hid (fun i wx (hi : i ≤ 1000000) => refAt_any (digs y) i wx (digs_digs y) (by omega) hi)
  have L1 := digs_len x
  have HA := Lib.hid (digs_digs x).reverse
  have HB := Lib.hid (digs_digs y).reverse
  have RA := Lib.hid (rev_rval x)
  have RB := Lib.hid (rev_rval y)
  obtain ⟨n, hn⟩ : ∃ n, n = (digs x).length := ⟨_, rfl⟩
  obtain ⟨m, hm⟩ : ∃ m, m = (digs y).length := ⟨_, rfl⟩
  have LA : Hid ((digs x).reverse.length = n) := by show _ = _; rw [List.length_reverse, hn]
  have LB : Hid ((digs y).reverse.length = m) := by show _ = _; rw [List.length_reverse, hm]
  obtain ⟨S, hS⟩ : ∃ S, S = dStr (digs x) := ⟨_, rfl⟩
  obtain ⟨T, hT⟩ : ∃ T, T = dStr (digs y) := ⟨_, rfl⟩
  have hz : S.size = n := by rw [hS, dStr_size, hn]
  have hz2 : T.size = m := by rw [hT, dStr_size, hm]
  obtain ⟨M, hM1, hM2, hM3, hM4⟩ : ∃ M, n ≤ M ∧ m ≤ M ∧ M ≤ 100000 ∧ (if n < m then (m : Int) else (n : Int)) = (M : Int) := ⟨max n m, by omega, by omega, by omega, by split <;> omega⟩
  have DT : Hid (∀ (v : Value) (ds : List Nat) (k : Nat) (wx : World), Row w.heap.size v (dB ds) wx → Digs ds → ds.length = k → 1 ≤ k → k ≤ 1000000 → rVal ds = x + y → Calls Try.prog 104 #[v] wx fun r w' => r = .returned (.string (dStr (digs (x + y)))) ∧ Below wx.heap.size wx w') := by
    intro v ds k wx h1 h2 h3 h5 h6 h4
    have := refTurned_any v ds _ k wx h1 h2 h3 h5 h6
    rw [h4] at this
    exact this
  rw [← hS] at DA
  rw [← hT] at DB
  rw [← hn] at hx L1
  rw [← hS, ← hT]
  clear hS hT hn hm hy
  generalize (digs x).reverse = la at *
  generalize (digs y).reverse = lb at *
  go_enter Try.func92, Try.ntmps92
  go_wp2
  go_loopw [5, 6, 7] (fun v cv iv wr => ∃ (k c : Nat) (ds : List Nat), iv = .int .i64 (k : Int) ∧ cv = .int .i64 (c : Int) ∧ c ≤ 1 ∧ (k ≤ M ∨ k = M + 1 ∧ c = 0) ∧ Digs ds ∧ ds.length = k ∧ rVal ds + 10 ^ k * c = rVal (la.take k) + rVal (lb.take k) ∧ Row w.heap.size v (dB ds) wr ∧ Below w.heap.size w wr) (fun _ _ iv _ => M + 1 - (intOf iv).toNat)
  case atStart => exact ⟨0, 0, [], rfl, rfl, by omega, by omega, Digs.nil, rfl, by simp [rVal], Row.nil _ _, Below.refl _ _⟩
  case round =>
    obtain ⟨k, c, ds, rfl, rfl, hc, hk, hds, hlds, hE, hR, hbw⟩ := hrel
    have HDS := Lib.hid hds
    have HLD := Lib.hid hlds
    have HE := Lib.hid hE
    have HR := Lib.hid hR
    have HW := Lib.hid hbw
    have HK := Lib.hid hk
    have hk2 : k ≤ M + 1 := by omega
    clear hds hlds hE hR hbw hk
    by_cases hlt : k < M ∨ 0 < c
    · have DA2 := Lib.hid (fun wx => DA.out k wx (by omega))
      have DB2 := Lib.hid (fun wx => DB.out k wx (by omega))
      have hu := rAt_lt HA.out k
      have hv := rAt_lt HB.out k
      have HO : Hid (M ≤ k → rAt la k = 0 ∧ rAt lb k = 0) := fun h => by
        have h1 := LA.out
        have h2 := LB.out
        unfold rAt
        rw [List.getD_eq_getElem?_getD, List.getElem?_eq_none (by omega), List.getD_eq_getElem?_getD, List.getElem?_eq_none (by omega)]
        exact ⟨rfl, rfl⟩
      have ST := Lib.hid (fun x' y' h1 h2 => plus_step (x := x') (y := y') HE.out HLD.out h1 h2)
      generalize hu' : rAt la k = a at *
      generalize hv' : rAt lb k = b at *
      clear hu' hv'
      obtain ⟨t, ht⟩ : ∃ t, t = a + b + c := ⟨_, rfl⟩
      obtain ⟨z, hz0⟩ : ∃ z, z = t % 10 := ⟨_, rfl⟩
      obtain ⟨y', hy0⟩ : ∃ y', y' = t / 10 := ⟨_, rfl⟩
      have hz9 : z < 10 := by omega
      have ht19 : t ≤ 19 := by omega
      have hy1 : y' ≤ 1 := by omega
      have HKN : Hid (k + 1 ≤ M ∨ k + 1 = M + 1 ∧ y' = 0) := by
        have h1 := HK.out
        have h2 := HO.out
        rcases Nat.lt_or_ge k M with h | h
        · exact .inl h
        · obtain ⟨h3, h4⟩ := h2 h
          exact .inr (by omega)
      have e1 : IntKind.i64.wrap ((a : Int) + (b : Int)) = (a : Int) + (b : Int) := IntWalk.i64_in _ (by omega)
      have e2 : IntKind.i64.wrap ((a : Int) + (b : Int) + (c : Int)) = (t : Int) := by rw [IntWalk.i64_in _ (by omega)]; omega
      have e3 : (t : Int).tmod 10 = (z : Int) := by rw [Int.tmod_eq_emod_of_nonneg (by omega)]; omega
      have e6 : (t : Int).tdiv 10 = (y' : Int) := by rw [Int.tdiv_eq_ediv_of_nonneg (by omega)]; omega
      have e7 : IntKind.i64.wrap (z : Int) = (z : Int) := IntWalk.i64_in _ (by omega)
      have e8 : IntKind.i64.wrap (y' : Int) = (y' : Int) := IntWalk.i64_in _ (by omega)
      have e4 : IntKind.i64.wrap (48 + (z : Int)) = 48 + (z : Int) := IntWalk.i64_in _ (by omega)
      have e5 : IntKind.u8.wrap (48 + (z : Int)) = 48 + (z : Int) := IntWalk.u8_in _ ⟨by omega, by omega⟩
      have ST2 : Hid (rVal (ds ++ [z]) + 10 ^ (k + 1) * y' = rVal (la.take (k + 1)) + rVal (lb.take (k + 1))) := by have := ST.out t y' ht hy0; rw [← hz0] at this; exact this
      clear ht hz0 hy0 ST HO
      obtain ⟨nb, hnb⟩ : ∃ nb, nb = [(48 + z).toUInt8] := ⟨_, rfl⟩
      have BC : Hid (Lib.byteCells nb = [.int .u8 ((48 + z : Nat) : Int)]) := by show _ = _; rw [hnb]; exact byte_of hz9
      have BN : Hid (dB (ds ++ [z]) = dB ds ++ nb) := by show _ = _; rw [hnb]; exact dB_snoc ds z
      have BL : Hid (1 = nb.length) := by show _ = _; rw [hnb]; rfl
      have HZ9 := Lib.hid hz9
      clear hnb hz9
      by_cases hlt1 : k < M
      · have q1 : decide ((k : Int) < (M : Int)) = true := decide_eq_true (by omega)
        have q2 : decide (k < M) = true := decide_eq_true hlt1
        clear hlt
        go_wp2_with fail
        (with_reducible refine (DA2.out _).mono ?_)
        rintro e w4 ⟨rfl, rfl⟩
        go_wp2_with fail
        (with_reducible refine (DB2.out _).mono ?_)
        rintro e w4 ⟨rfl, rfl⟩
        go_wp2_with (at_builtin; go_loud (refine wp_append_new (w := wr) rfl _ _ rfl w.heap.size u5 (dB ds) rfl HR.out nb _ 1 rfl BL.out (by rw [BC.out]; rfl) (by rw [dB_len, HLD.out]; omega) (by have := HW.out.size; omega) ?_))
        intro v5 W5 hR5 hb5
        have HR5 := Lib.hid hR5
        have HW5 := Lib.hid (HW.out.trans (hb5.mono (Nat.le_refl _)))
        clear hR5 hb5
        go_wp2
        go_roundw
        case rel => exact ⟨k + 1, y', ds ++ [z], by go_num, rfl, hy1, HKN.out, HDS.out.append (Digs.cons HZ9.out Digs.nil), by rw [List.length_append, HLD.out]; rfl, ST2.out, by rw [BN.out]; exact HR5.out, HW5.out⟩
        case measure => simp [intOf]; omega
      · have q1 : decide ((k : Int) < (M : Int)) = false := decide_eq_false (by omega)
        have q2 : decide (k < M) = false := decide_eq_false hlt1
        have c1 : 0 < c := by omega
        have q3 : decide (0 < (c : Int)) = true := decide_eq_true (by omega)
        have q4 : decide (0 < c) = true := decide_eq_true c1
        have HMK := Lib.hid (show k ≤ M by have := HK.out; omega)
        clear hlt
        go_wp2_with fail
        (with_reducible refine (DA2.out _).mono ?_)
        rintro e w4 ⟨rfl, rfl⟩
        go_wp2_with fail
        (with_reducible refine (DB2.out _).mono ?_)
        rintro e w4 ⟨rfl, rfl⟩
        go_wp2_with (at_builtin; go_loud (refine wp_append_new (w := wr) rfl _ _ rfl w.heap.size u5 (dB ds) rfl HR.out nb _ 1 rfl BL.out (by rw [BC.out]; rfl) (by rw [dB_len, HLD.out]; omega) (by have := HW.out.size; omega) ?_))
        intro v5 W5 hR5 hb5
        have HR5 := Lib.hid hR5
        have HW5 := Lib.hid (HW.out.trans (hb5.mono (Nat.le_refl _)))
        clear hR5 hb5
        go_wp2
        go_roundw
        case rel => exact ⟨k + 1, y', ds ++ [z], by go_num, rfl, hy1, HKN.out, HDS.out.append (Digs.cons HZ9.out Digs.nil), by rw [List.length_append, HLD.out]; rfl, ST2.out, by rw [BN.out]; exact HR5.out, HW5.out⟩
        case measure => have := HMK.out; simp [intOf]; omega
    · have h1 : ¬ k < M := fun h => hlt (.inl h)
      have h2 : c = 0 := by omega
      subst h2
      clear hlt
      have HV : Hid (rVal ds = x + y) := by
        have h1 := HE.out
        have h2 := LA.out
        have h3 := LB.out
        rw [rVal_take_all (by omega), rVal_take_all (by omega), RA.out, RB.out] at h1
        show _ = _
        omega
      have q1 : decide ((k : Int) < (M : Int)) = false := decide_eq_false (by omega)
      have q2 : decide (k < M) = false := decide_eq_false h1
      go_wp2_with fail
      (with_reducible refine (DT.out u5 ds k _ ?_ ?_ ?_ ?_ ?_ ?_).mono ?_)
      · exact HR.out
      · exact HDS.out
      · exact HLD.out
      · omega
      · omega
      · exact HV.out
      rintro e w4 ⟨rfl, hb4⟩
      go_wp2
      go_ret
      exact ⟨rfl, HW.out.trans (hb4.mono HW.out.size)⟩
end Go.Proofs.Ytmaljkjcibdbgaa
