/- The reference's Minus. -/
import Derived.Test.YtpbljcjghjbjdaaDoorDRefAt
import Derived.Test.YtpbljcjghjbjdaaDoorDPrint
namespace Go.Proofs.YtpbljcjghjbjdaaDoor
open Go.RowKit
attribute [local go_sem ↓] Go.wp_at_zero Go.wp_at_succ

theorem byte_of {d : Nat} (h : d < 10) : Lib.byteCells [(48 + d).toUInt8] = [.int .u8 ((48 + d : Nat) : Int)] := by
  unfold Lib.byteCells
  simp
  omega
theorem dB_snoc (l : List Nat) (d : Nat) : dB (l ++ [d]) = dB l ++ [(48 + d).toUInt8] := by rw [dB_append]; rfl
theorem rev_rval (x : Nat) : rVal (digs x).reverse = x := by have := dVal_digs x; unfold dVal at this; exact this

set_option maxHeartbeats 4000000 in
set_option maxRecDepth 100000 in
theorem refMinus_any (x y : Nat) (w : World) (h : y ≤ x) (hx : (digs x).length ≤ 100000) (hy : (digs y).length ≤ 100000) :
    Calls Tryd.prog 178 #[.string (dStr (digs x)), .string (dStr (digs y))] w fun r w' => r = .returned (.string (dStr (digs (x - y)))) ∧ Below w.heap.size w w' := by
  have DA := Lib.hid (fun i wx (hi : i ≤ 1000000) => refAt_any (digs x) i wx (digs_digs x) (by omega) hi)
  have DB := Lib.hid (fun i wx (hi : i ≤ 1000000) => refAt_any (digs y) i wx (digs_digs y) (by omega) hi)
  have L1 := digs_len x
  have HA := Lib.hid (digs_digs x).reverse
  have HB := Lib.hid (digs_digs y).reverse
  have RA := Lib.hid (rev_rval x)
  have RB := Lib.hid (rev_rval y)
  obtain ⟨n, hn⟩ : ∃ n, n = (digs x).length := ⟨_, rfl⟩
  have LA : Hid ((digs x).reverse.length = n) := by show _ = _; rw [List.length_reverse, hn]
  have LB : Hid ((digs y).reverse.length ≤ n) := by
    show _ ≤ _
    rw [List.length_reverse]
    exact (digs_le y n (by omega)).2 (Nat.lt_of_le_of_lt h ((digs_le x n (by omega)).1 (by omega)))
  have HH := Lib.hid h
  obtain ⟨S, hS⟩ : ∃ S, S = dStr (digs x) := ⟨_, rfl⟩
  obtain ⟨T, hT⟩ : ∃ T, T = dStr (digs y) := ⟨_, rfl⟩
  have hz : S.size = n := by rw [hS, dStr_size, hn]
  have DT : Hid (∀ (v : Value) (ds : List Nat) (wx : World), Row w.heap.size v (dB ds) wx → Digs ds → ds.length = n → rVal ds = x - y → Calls Tryd.prog 194 #[v] wx fun r w' => r = .returned (.string (dStr (digs (x - y)))) ∧ Below wx.heap.size wx w') := by
    intro v ds wx h1 h2 h3 h4
    have := refTurned_any v ds _ n wx h1 h2 h3 (by omega) (by omega)
    rw [h4] at this
    exact this
  rw [← hS] at DA
  rw [← hT] at DB
  rw [← hn] at hx L1
  rw [← hS, ← hT]
  clear hS hT hn h hy
  generalize (digs x).reverse = la at *
  generalize (digs y).reverse = lb at *
  go_enter Tryd.func178, Tryd.ntmps178
  go_wp2
  go_loopw [5, 6, 7] (fun v cv iv wr => ∃ (k c : Nat) (ds : List Nat), iv = .int .i64 (k : Int) ∧ cv = .int .i64 (c : Int) ∧ c ≤ 1 ∧ k ≤ n ∧ Digs ds ∧ ds.length = k ∧ rVal ds + rVal (lb.take k) = rVal (la.take k) + 10 ^ k * c ∧ Row w.heap.size v (dB ds) wr ∧ Below w.heap.size w wr) (fun _ _ iv _ => n - (intOf iv).toNat)
  case atStart => exact ⟨0, 0, [], rfl, rfl, by omega, by omega, Digs.nil, rfl, by simp [rVal], Row.nil _ _, Below.refl _ _⟩
  case round =>
    obtain ⟨k, c, ds, rfl, rfl, hc, hk, hds, hlds, hE, hR, hbw⟩ := hrel
    have HDS := Lib.hid hds
    have HLD := Lib.hid hlds
    have HE := Lib.hid hE
    have HR := Lib.hid hR
    have HW := Lib.hid hbw
    clear hds hlds hE hR hbw
    by_cases hlt : k < n
    · have DA2 := Lib.hid (fun wx => DA.out k wx (by omega))
      have DB2 := Lib.hid (fun wx => DB.out k wx (by omega))
      have hu := rAt_lt HA.out k
      have hv := rAt_lt HB.out k
      have ST := Lib.hid (fun z y' hz => minus_step (z := z) (y := y') HE.out HLD.out hz)
      generalize hu' : rAt la k = a at *
      generalize hv' : rAt lb k = b at *
      clear hu' hv'
      have e1 : IntKind.i64.wrap ((a : Int) - (b : Int)) = (a : Int) - (b : Int) := IntWalk.i64_in _ (by omega)
      have e2 : IntKind.i64.wrap ((a : Int) - (b : Int) - (c : Int)) = (a : Int) - (b : Int) - (c : Int) := IntWalk.i64_in _ (by omega)
      by_cases hlow : a < b + c
      · obtain ⟨z, hz2⟩ : ∃ z, z + b + c = a + 10 := ⟨a + 10 - b - c, by omega⟩
        have q : decide ((a : Int) - (b : Int) - (c : Int) < 0) = true := decide_eq_true (by omega)
        have e3 : IntKind.i64.wrap ((a : Int) - (b : Int) - (c : Int) + 10) = (z : Int) := by rw [IntWalk.i64_in _ (by omega)]; omega
        have e4 : IntKind.i64.wrap (48 + (z : Int)) = 48 + (z : Int) := IntWalk.i64_in _ (by omega)
        have e5 : IntKind.u8.wrap (48 + (z : Int)) = 48 + (z : Int) := IntWalk.u8_in _ ⟨by omega, by omega⟩
        have hz9 : z < 10 := by omega
        have ST2 := Lib.hid (ST.out z 1 (.inr ⟨hlow, by omega, rfl⟩))
        clear hz2 ST
        obtain ⟨nb, hnb⟩ : ∃ nb, nb = [(48 + z).toUInt8] := ⟨_, rfl⟩
        have BC : Hid (Lib.byteCells nb = [.int .u8 ((48 + z : Nat) : Int)]) := by show _ = _; rw [hnb]; exact byte_of hz9
        have BN : Hid (dB (ds ++ [z]) = dB ds ++ nb) := by show _ = _; rw [hnb]; exact dB_snoc ds z
        have BL : Hid (1 = nb.length) := by show _ = _; rw [hnb]; rfl
        have HZ9 := Lib.hid hz9
        clear hnb hz9
        go_wp2_with fail
        (with_reducible refine (DA2.out _).mono ?_)
        rintro e w4 ⟨rfl, rfl⟩
        go_wp2_with fail
        (with_reducible refine (DB2.out _).mono ?_)
        rintro e w4 ⟨rfl, rfl⟩
        go_wp2_with (at_builtin; go_loud (refine wp_append_new (w := wr) rfl _ _ rfl w.heap.size u5 (dB ds) rfl HR.out nb _ 1 rfl BL.out (by rw [BC.out]; rfl) (by rw [dB_len, HLD.out]; omega) (by have := HW.out.size; omega) ?_))
        intro v5 W5 hR5 hb5
        have HR5 := Lib.hid hR5
        have HW5 := Lib.hid (HW.out.trans (hb5.mono (Nat.le_refl _)))
        clear hR5 hb5
        go_wp2
        go_roundw
        case rel => exact ⟨k + 1, 1, ds ++ [z], by go_num, rfl, by omega, by omega, HDS.out.append (Digs.cons HZ9.out Digs.nil), by rw [List.length_append, HLD.out]; rfl, ST2.out, by rw [BN.out]; exact HR5.out, HW5.out⟩
        case measure => simp [intOf]; omega
      · obtain ⟨z, hz2⟩ : ∃ z, z + b + c = a := ⟨a - b - c, by omega⟩
        have q : decide ((z : Int) < 0) = false := decide_eq_false (by omega)
        have e3 : (a : Int) - (b : Int) - (c : Int) = (z : Int) := by omega
        have e4 : IntKind.i64.wrap (48 + (z : Int)) = 48 + (z : Int) := IntWalk.i64_in _ (by omega)
        have e5 : IntKind.u8.wrap (48 + (z : Int)) = 48 + (z : Int) := IntWalk.u8_in _ ⟨by omega, by omega⟩
        have hz9 : z < 10 := by omega
        have ST2 := Lib.hid (ST.out z 0 (.inl ⟨by omega, by omega, rfl⟩))
        clear hz2 ST
        obtain ⟨nb, hnb⟩ : ∃ nb, nb = [(48 + z).toUInt8] := ⟨_, rfl⟩
        have BC : Hid (Lib.byteCells nb = [.int .u8 ((48 + z : Nat) : Int)]) := by show _ = _; rw [hnb]; exact byte_of hz9
        have BN : Hid (dB (ds ++ [z]) = dB ds ++ nb) := by show _ = _; rw [hnb]; exact dB_snoc ds z
        have BL : Hid (1 = nb.length) := by show _ = _; rw [hnb]; rfl
        have HZ9 := Lib.hid hz9
        clear hnb hz9
        go_wp2_with fail
        (with_reducible refine (DA2.out _).mono ?_)
        rintro e w4 ⟨rfl, rfl⟩
        go_wp2_with fail
        (with_reducible refine (DB2.out _).mono ?_)
        rintro e w4 ⟨rfl, rfl⟩
        go_wp2_with (at_builtin; go_loud (refine wp_append_new (w := wr) rfl _ _ rfl w.heap.size u5 (dB ds) rfl HR.out nb _ 1 rfl BL.out (by rw [BC.out]; rfl) (by rw [dB_len, HLD.out]; omega) (by have := HW.out.size; omega) ?_))
        intro v5 W5 hR5 hb5
        have HR5 := Lib.hid hR5
        have HW5 := Lib.hid (HW.out.trans (hb5.mono (Nat.le_refl _)))
        clear hR5 hb5
        go_wp2
        go_roundw
        case rel => exact ⟨k + 1, 0, ds ++ [z], by go_num, rfl, by omega, by omega, HDS.out.append (Digs.cons HZ9.out Digs.nil), by rw [List.length_append, HLD.out]; rfl, ST2.out, by rw [BN.out]; exact HR5.out, HW5.out⟩
        case measure => simp [intOf]; omega
    · obtain rfl : k = n := by omega
      have HV : Hid (rVal ds = x - y) := by
        have h1 := HE.out
        rw [rVal_take_all LB.out, rVal_take_all (Nat.le_of_eq LA.out), RA.out, RB.out] at h1
        have h2 := rVal_lt HDS.out
        rw [HLD.out] at h2
        have h3 := HH.out
        rcases Nat.eq_zero_or_pos c with h | h
        · subst h; show _ = _; omega
        · have : c = 1 := by omega
          subst this
          omega
      go_wp2_with fail
      (with_reducible refine (DT.out u5 ds _ ?_ ?_ ?_ ?_).mono ?_)
      · exact HR.out
      · exact HDS.out
      · exact HLD.out
      · exact HV.out
      rintro e w4 ⟨rfl, hb4⟩
      go_wp2
      go_ret
      exact ⟨rfl, HW.out.trans (hb4.mono HW.out.size)⟩

end Go.Proofs.YtpbljcjghjbjdaaDoor
