/- Both sides' Check tell the same. -/
import Derived.Test.YtcdmanhhddcmcaaOpL
import Derived.Test.YtcdmanhhddcmcaaOpM
import Derived.Test.YtcdmanhhddcmcaaOpN
import Derived.Test.YtcdmanhhddcmcaaOpO
import Derived.Test.YtcdmanhhddcmcaaOpP
import Derived.Test.YtcdmanhhddcmcaaOpQ
import Derived.Test.YtcdmanhhddcmcaaDRefPad
namespace Go.Proofs.Ytcdmanhhddcmcaa
open Go.RowKit
theorem rcheck_early (d : Dc) (hd : d.Ok) (oI : ByteArray) (oV oW : Int) (oG oT : ByteArray) (oX : Int) (h : d.neg = true ∨ oX < 0 ∨ 40 < oX ∨ oV < (d.f.length : Int) ∨ 40 - (d.i.length : Int) < oV) : (∀ wx : World, Calls Try.prog 16 #[.agg #[.bool d.neg, .string (dStr d.i), .string (dStr d.f), .string oI, .int .i64 oV, .int .i64 oW, .string oG, .string oT, .int .i64 oX]] wx fun e w' => e = .returned (.int .i64 40) ∧ Below wx.heap.size wx w') := by
  intro wx
  have HC := fun wx => refCheck_ok d wx hd
  have hm := hd.most
  cases hn : d.neg with
  | true =>
    rw [hn] at HC
    exact rcheck_neg (H1 := HC) (w := wx) (oI := _) (oV := _) (oW := _) (oG := _) (oT := _) (oX := _)
  | false =>
    rw [hn] at HC h
    have s1 : (dStr d.i).size = d.i.length := dStr_size _
    have s2 : (dStr d.f).size = d.f.length := dStr_size _
    by_cases e1 : oX < 0
    · exact rcheck_e1 (H1 := HC) (w := wx) (oI := _) (oV := _) (oW := _) (oG := _) (oT := _) (oX := _) (h := e1)
    by_cases e2 : 40 < oX
    · exact rcheck_e2 (H1 := HC) (w := wx) (oI := _) (oV := _) (oW := _) (oG := _) (oT := _) (oX := _) (h := e2)
    by_cases e3 : oV < ((dStr d.f).size : Int)
    · exact rcheck_v1 (H1 := HC) (w := wx) (oI := _) (oV := _) (oW := _) (oG := _) (oT := _) (oX := _) (h := ⟨by omega, by omega⟩) (hv := e3)
    · refine rcheck_v2 (H1 := HC) (w := wx) (oI := _) (oV := _) (oW := _) (oG := _) (oT := _) (oX := _) (h := ⟨by omega, by omega⟩) (hv := e3) (hs := by omega) (hv2 := ?_)
      rcases h with h | h | h | h | h
      · cases h
      · omega
      · omega
      · omega
      · omega

theorem chk_pair (on : Bool) (oi oj oI : ByteArray) (oV oW : Int) (oG oT : ByteArray) (oX : Int) (h1 : oi.size ≤ 140737488355328) (h2 : oj.size ≤ 140737488355328) :
    ∃ c : Int, (∀ wx : World, Calls Try.prog 15 #[.agg #[.bool on, .string oi, .string oj, .string oI, .int .i64 oV, .int .i64 oW, .string oG, .string oT, .int .i64 oX]] wx fun e w' => e = .returned (.int .i64 c) ∧ Below wx.heap.size wx w') ∧ (∀ wx : World, Calls Try.prog 16 #[.agg #[.bool on, .string oi, .string oj, .string oI, .int .i64 oV, .int .i64 oW, .string oG, .string oT, .int .i64 oX]] wx fun e w' => e = .returned (.int .i64 c) ∧ Below wx.heap.size wx w') := by
  cases hb : okB on oi oj with
  | false => exact ⟨40, fun wx => ocheck_pad20 (H1 := fun wx => pad_bad on oi oj oV wx h1 h2 hb) (w := wx) (oI := _) (oV := _) (oW := _) (oG := _) (oT := _) (oX := _), fun wx => rcheck_bad (H1 := fun wx => refCheck_bad on oi oj wx h1 h2 hb) (w := wx) (oI := _) (oV := _) (oW := _) (oG := _) (oT := _) (oX := _)⟩
  | true =>
  obtain ⟨d, hd, rfl, rfl, rfl⟩ := ok_cases hb
  have hm := hd.most
  by_cases v1 : oV < 0
  · exact ⟨40, fun wx => ocheck_pad1 (H1 := fun wx => pad_lo d oV wx hd v1) (w := wx) (oI := _) (oV := _) (oW := _) (oG := _) (oT := _) (oX := _), rcheck_early d hd oI oV oW oG oT oX (.inr (.inr (.inr (.inl (by omega)))))⟩
  by_cases v2 : 40 < oV
  · exact ⟨40, fun wx => ocheck_pad1 (H1 := fun wx => pad_hi d oV wx hd v2) (w := wx) (oI := _) (oV := _) (oW := _) (oG := _) (oT := _) (oX := _), rcheck_early d hd oI oV oW oG oT oX (.inr (.inr (.inr (.inr (by omega)))))⟩
  obtain ⟨m, rfl⟩ : ∃ m : Nat, oV = (m : Int) := ⟨oV.toNat, by omega⟩
  have hpf := pad_form hd m (max d.f.length m) rfl
  by_cases hlong : 40 < d.i.length + max d.f.length m
  · rw [if_pos hlong] at hpf
    exact ⟨40, fun wx => ocheck_pad3 (H1 := fun wx => pad_ok d m wx none hpf hd (by omega)) (w := wx) (oI := _) (oV := _) (oW := _) (oG := _) (oT := _) (oX := _), rcheck_early d hd oI m oW oG oT oX (.inr (.inr (.inr (.inr (by omega)))))⟩
  rw [if_neg hlong] at hpf
  obtain ⟨p, hp⟩ : ∃ p, p = padded d (max d.f.length m - d.f.length) := ⟨_, rfl⟩
  rw [← hp] at hpf
  have hpo : p.Ok := by
    have := hpf
    unfold padD mkN at this
    exact (mk_some this).2.2.1
  have DP := fun wx => pad_ok d m wx (some p) hpf hd (by omega)
  by_cases hx : 0 ≤ oX ∧ oX ≤ 40
  case neg => exact ⟨40, fun wx => ocheck_exp (H1 := DP) (w := wx) (oI := _) (oV := _) (oW := _) (oG := _) (oT := _) (oX := _) (hx := hx), rcheck_early d hd oI m oW oG oT oX (by omega)⟩
  have DO := fun wx => operandsOf_any p ⟨false, p.i, cutF p⟩ oX wx (absX_trim p) hpo
  cases hn : d.neg with
  | true =>
    rw [hn] at DP
    refine ⟨40, fun wx => ocheck_d0 (H1 := DP) (H2 := DO) (w := wx) (oI := _) (oV := _) (oW := _) (oG := _) (oT := _) (oX := _) (hx := hx), ?_⟩
    have := rcheck_early d hd oI m oW oG oT oX (.inl hn)
    rw [hn] at this
    exact this
  | false =>
  rw [hn] at DP
  have hpl : p.f.length = max d.f.length m := by rw [hp]; show (d.f ++ List.replicate _ 0).length = _; simp; omega
  by_cases hv : m < d.f.length
  · refine ⟨40, fun wx => ocheck_d4 (H1 := DP) (H2 := DO) (w := wx) (oI := _) (oV := _) (oW := _) (oG := _) (oT := _) (oX := _) (hx := hx) (q := beq_eq_false_iff_ne.2 (by omega)), ?_⟩
    have := rcheck_early d hd oI m oW oG oT oX (.inr (.inr (.inr (.inl (by omega)))))
    rw [hn] at this
    exact this
  have hpn : p.neg = false := by rw [hp]; exact hn
  have RC := fun wx => refCheck_ok d wx hd
  have RP := fun wx => refPad_ok d m wx (some p) hpf hd (by omega)
  have RO := fun wx => refShown_any p ⟨false, p.i, cutF p⟩ oX wx (absX_trim p) hpo
  have DO2 := DO
  simp only [Go.Proofs.Ytcdmanhhddcmcaa.oN, Go.Proofs.Ytcdmanhhddcmcaa.oI, Go.Proofs.Ytcdmanhhddcmcaa.oF, Go.Proofs.Ytcdmanhhddcmcaa.oE] at RP DP
  rw [hn, hpn] at RP
  rw [hn] at RC
  rw [hpn] at DP DO2
  have s1 : (dStr d.i).size = d.i.length := dStr_size _
  have s2 : (dStr d.f).size = d.f.length := dStr_size _
  have r1 : ¬ ((m : Nat) : Int) < ((dStr d.f).size : Int) := by omega
  have r2 : (dStr d.i).size ≤ 40 := by omega
  have r3 : ¬ 40 - ((dStr d.i).size : Int) < ((m : Nat) : Int) := by omega
  have hml : (m : Int) = (p.f.length : Int) := by omega
  by_cases c2 : dStr d.f = dStr (cutF p)
  case neg => exact ⟨40, fun wx => ocheck_d2 (H1 := DP) (H2 := DO2) (w := wx) (oI := _) (oV := _) (oW := _) (oG := _) (oT := _) (oX := _) (hx := hx) (q := toList_ne c2), fun wx => rcheck_d2 (H1 := RC) (H2 := RP) (H3 := RO) (w := wx) (oI := _) (oV := _) (oW := _) (oG := _) (oT := _) (oX := _) (h := hx) (hv := r1) (hs := r2) (hv2 := r3) (q := toList_ne (Ne.symm c2))⟩
  by_cases c3 : oI = dStr p.i
  case neg => exact ⟨40, fun wx => ocheck_d3 (H1 := DP) (H2 := DO2) (w := wx) (oI := _) (oV := _) (oW := _) (oG := _) (oT := _) (oX := _) (hx := hx) (q := toList_ne c3), fun wx => rcheck_d3 (H1 := RC) (H2 := RP) (H3 := RO) (w := wx) (oI := _) (oV := _) (oW := _) (oG := _) (oT := _) (oX := _) (h := hx) (hv := r1) (hs := r2) (hv2 := r3) (q := toList_ne (Ne.symm c3))⟩
  by_cases c5 : oW = ((cutF p).length : Int)
  case neg => exact ⟨40, fun wx => ocheck_d5 (H1 := DP) (H2 := DO2) (w := wx) (oI := _) (oV := _) (oW := _) (oG := _) (oT := _) (oX := _) (hx := hx) (q := beq_eq_false_iff_ne.2 c5), fun wx => rcheck_d5 (H1 := RC) (H2 := RP) (H3 := RO) (w := wx) (oI := _) (oV := _) (oW := _) (oG := _) (oT := _) (oX := _) (h := hx) (hv := r1) (hs := r2) (hv2 := r3) (q := beq_eq_false_iff_ne.2 (Ne.symm c5))⟩
  by_cases c6 : oG = dStr (intg p.f)
  case neg => exact ⟨40, fun wx => ocheck_d6 (H1 := DP) (H2 := DO2) (w := wx) (oI := _) (oV := _) (oW := _) (oG := _) (oT := _) (oX := _) (hx := hx) (q := toList_ne c6), fun wx => rcheck_d6 (H1 := RC) (H2 := RP) (H3 := RO) (w := wx) (oI := _) (oV := _) (oW := _) (oG := _) (oT := _) (oX := _) (h := hx) (hv := r1) (hs := r2) (hv2 := r3) (q := toList_ne (Ne.symm c6))⟩
  by_cases c7 : oT = dStr (intg (cutF p))
  case neg => exact ⟨40, fun wx => ocheck_d7 (H1 := DP) (H2 := DO2) (w := wx) (oI := _) (oV := _) (oW := _) (oG := _) (oT := _) (oX := _) (hx := hx) (q := toList_ne c7), fun wx => rcheck_d7 (H1 := RC) (H2 := RP) (H3 := RO) (w := wx) (oI := _) (oV := _) (oW := _) (oG := _) (oT := _) (oX := _) (h := hx) (hv := r1) (hs := r2) (hv2 := r3) (q := toList_ne (Ne.symm c7))⟩
  have hpi : d.i = p.i := by rw [hp]; rfl
  subst c3 c5 c6 c7
  rw [c2] at RC RP
  rw [hpi] at RC RP
  rw [c2, hpi, hml]
  rw [hml] at RP
  rw [c2] at r1
  rw [hpi] at r2 r3
  rw [hml] at r1 r3
  exact ⟨0, fun wx => ocheck_ok (absX p) ⟨false, p.i, cutF p⟩ oX wx (absX_ok hpo) rfl hx.1 hx.2 (absX_trim p), fun wx => rcheck_ok (H1 := RC) (H2 := RP) (H3 := RO) (w := wx) (oI := _) (oV := _) (oW := _) (oG := _) (oT := _) (oX := _) (h := hx) (hv := r1) (hs := r2) (hv2 := r3)⟩
end Go.Proofs.Ytcdmanhhddcmcaa
