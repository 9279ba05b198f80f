/- A decimal made at its own scale, and padded; how many significant digits. -/
import Derived.Test.YtcdmanhhddcmcaaRoZ
import Derived.Test.YtcdmanhhddcmcaaRrMul
namespace Go.Proofs.Ytcdmanhhddcmcaa
open Go.RowKit
/-- A decimal of the right form, however long, made at its own scale. -/
theorem mk_form {d : Dc} (hg : d.Dg) (lead : d.i.length = 1 ∨ ∃ x, d.i.head? = some x ∧ x ≠ 0) (sign : d.neg = true → d.num ≠ 0) : mkN d.neg (d.raised d.f.length) d.f.length = if 40 < d.i.length + d.f.length then none else some d := by
  have e : mkN d.neg (d.raised d.f.length) d.f.length = mk d.z d.f.length := by
    unfold mkN Dc.raised Dc.z
    rw [Nat.sub_self, Nat.pow_zero, Nat.mul_one]
  rw [e]
  by_cases c : 40 < d.i.length + d.f.length
  · rw [if_pos c, mk_none]
    rcases lead with h | ⟨x, hx, hx0⟩
    · left; omega
    · by_cases hf : 40 ≤ d.f.length
      · exact .inl hf
      · right
        have hz : d.z.natAbs = d.num := by unfold Dc.z; split <;> omega
        rw [hz]
        cases hi : d.i with
        | nil => rw [hi] at hx; cases hx
        | cons y m =>
          rw [hi] at hx c
          simp at hx
          subst hx
          unfold Dc.num
          rw [hi, List.cons_append, dVal_cons]
          have h1 : 10 ^ 40 ≤ 10 ^ (m ++ d.f).length := Nat.pow_le_pow_right (by omega) (by rw [List.length_append]; simp at c; omega)
          have h2 : 1 * 10 ^ (m ++ d.f).length ≤ y * 10 ^ (m ++ d.f).length := Nat.mul_le_mul_right _ (by omega)
          omega
  · rw [if_neg c]
    exact mk_ok ⟨hg.di, hg.df, hg.one, by omega, lead, sign⟩
def padded (d : Dc) (j : Nat) : Dc := ⟨d.neg, d.i, d.f ++ List.replicate j 0⟩
theorem pad_form {d : Dc} (hd : d.Ok) (k M : Nat) (hM : M = max d.f.length k) : padD d k = if 40 < d.i.length + M then none else some (padded d (M - d.f.length)) := by
  have hl : (padded d (M - d.f.length)).f.length = M := by show (d.f ++ List.replicate _ 0).length = M; rw [List.length_append, List.length_replicate]; omega
  have hn : (padded d (M - d.f.length)).num = d.raised M := by
    rw [← raised_digs d M, List.append_assoc]
    rfl
  have hr : (padded d (M - d.f.length)).raised M = d.raised M := by
    unfold Dc.raised
    rw [hl, hn, Nat.sub_self, Nat.pow_zero, Nat.mul_one]
    rfl
  have hg : (padded d (M - d.f.length)).Dg := ⟨hd.di, .append hd.df (.zeros _), hd.one⟩
  have := mk_form hg hd.lead (fun h => by
    rw [hn]
    have := hd.sign h
    exact Nat.ne_of_gt (Nat.mul_pos (Nat.pos_of_ne_zero this) (Nat.pow_pos (by omega))))
  rw [hl, hr] at this
  show mkN d.neg (d.raised (max d.f.length k)) (max d.f.length k) = _
  rw [← hM]
  exact this

theorem mode_of3 {ok : Bool} {mode : Int} (h : modeE ok mode = 0) : ok = true ∧ 1 ≤ mode ∧ mode ≤ 8 := by
  cases ok with
  | false => exact absurd h (by unfold modeE; rw [if_neg Bool.false_ne_true]; decide)
  | true =>
    have hmB : modeB mode = true := by
      cases e : modeB mode with
      | true => rfl
      | false => unfold modeE at h; rw [e] at h; exact absurd h (by decide)
    unfold modeB at hmB
    simp only [Bool.and_eq_true, decide_eq_true_eq] at hmB
    exact ⟨rfl, hmB⟩
theorem bound_cut {x : Dc} (hx : x.Ok) (p : Nat) :
    boundV x.neg (dStr x.i) (dStr (x.f.take (cutTo x.f p x.f.length) ++ List.replicate (p - cutTo x.f p x.f.length) 0)) = RES (padD (cutZ x p) p) := by
  have hc := cutTo_le x.f p x.f.length
  have hl : (cutZ x p).f.length = cutTo x.f p x.f.length := by show (x.f.take _).length = _; rw [List.length_take]; omega
  obtain ⟨M, hM⟩ : ∃ M, M = max (cutZ x p).f.length p := ⟨_, rfl⟩
  rw [pad_form (cut_ok hx p) p M hM]
  have hMz : (x.f.take (cutTo x.f p x.f.length) ++ List.replicate (p - cutTo x.f p x.f.length) 0).length = M := by
    rw [List.length_append, List.length_replicate, List.length_take]
    omega
  have hj : M - (cutZ x p).f.length = p - cutTo x.f p x.f.length := by omega
  unfold boundV
  rw [dStr_size, dStr_size, hMz, hj]
  show (if 40 < x.i.length + M then _ else _) = RES (if 40 < x.i.length + M then none else _)
  by_cases h : 40 < x.i.length + M
  · rw [if_pos h, if_pos h]; rfl
  · rw [if_neg h, if_neg h]; rfl
def cellSz (wr : World) (p : Addr) : Nat := match wr.cell? p with | some (.string s) => s.size | _ => 0
end Go.Proofs.Ytcdmanhhddcmcaa

namespace Go.Proofs.Ytcdmanhhddcmcaa
open Go.RowKit
attribute [local go_sem ↓] Go.wp_at_zero Go.wp_at_succ

/-- How many significant digits. -/
def cntL (l : List Nat) : Nat := if dVal l = 0 then l.length else (digs (dVal l)).length
def sigD (d : Dc) : Nat := cntL (d.i ++ d.f)
theorem sig_at {l : List Nat} (hd : Digs l) {k : Nat} (hk : k < l.length) (hz : ∀ j, j < k → l.getD j 0 = 0) (h : l.getD k 0 ≠ 0) : dVal l ≠ 0 ∧ (digs (dVal l)).length = l.length - k := by
  have e := strip_val hz (Nat.le_of_lt hk)
  have hv : dVal l = dVal (l.drop k) := by
    conv => lhs; rw [e]
    rw [dVal_append, dVal_zeros, Nat.zero_mul, Nat.zero_add]
  have hx : (l.drop k).head? = some (l.getD k 0) := by
    rw [List.head?_drop, List.getD_eq_getElem?_getD, List.getElem?_eq_getElem hk]
    rfl
  have hdg := led (hd.drop k) (.inr ⟨_, hx, h⟩)
  rw [hv]
  refine ⟨fun c => ?_, by rw [hdg, List.length_drop]⟩
  rw [c] at hdg
  have : digs 0 = [0] := by unfold digs; rw [digsR_small (by omega)]; rfl
  rw [this] at hdg
  rw [← hdg] at hx
  simp at hx
  exact h (by rw [List.getD_eq_getElem?_getD, ← hx])
theorem sig_none {l : List Nat} (hz : ∀ j, j < l.length → l.getD j 0 = 0) : dVal l = 0 := by
  have e := strip_val hz (Nat.le_refl _)
  rw [e, List.drop_length, List.append_nil, dVal_zeros]

set_option maxHeartbeats 2000000 in
set_option maxRecDepth 100000 in
theorem sig_any (d : Dc) (w : World) (hd : d.Ok) :
    Calls Try.prog 56 #[(.agg #[.bool d.neg, .string (dStr d.i), .string (dStr d.f)])] w fun e w' => e = .returned (.int .i64 (sigD d : Nat)) ∧ Below w.heap.size w w' := by
  have hm := hd.most
  have HD := Lib.hid (hd.di.append hd.df)
  have g1 : ¬ 9223372036854775807 < (dStr d.i).size + (dStr d.f).size := by rw [dStr_size, dStr_size]; omega
  obtain ⟨T, hT⟩ : ∃ T, T = dStr (d.i ++ d.f) := ⟨_, rfl⟩
  have hTz : T.size = d.i.length + d.f.length := by rw [hT, dStr_size, List.length_append]
  have hap : dStr d.i ++ dStr d.f = T := by rw [dStr_append, hT]
  have HT := Lib.hid hT
  clear hd hT
  go_enter Try.func56, Try.ntmps56
  go_wp2_with fail
  go_loop [12] (fun v => ∃ k : Nat, v = .int .i64 k ∧ k ≤ d.i.length + d.f.length ∧ ∀ j, j < k → (d.i ++ d.f).getD j 0 = 0) (fun v => d.i.length + d.f.length - (intOf v).toNat)
  case atStart => exact ⟨0, rfl, by omega, fun j h => absurd h (by omega)⟩
  case round =>
    obtain ⟨k, rfl, hk, hz⟩ := hrel
    have HZ := Lib.hid hz
    clear hz
    by_cases hlt : k < d.i.length + d.f.length
    · have hks : k < T.size := by omega
      have hll : k < (d.i ++ d.f).length := by rw [List.length_append]; exact hlt
      have hget : (T[k]'hks).toNat = 48 + (d.i ++ d.f).getD k 0 := by
        have e := HT.out
        subst e
        exact dStr_get _ HD.out k hks
      have j1 : (k : Int) < (d.i.length : Int) + (d.f.length : Int) := by omega
      by_cases h0 : (d.i ++ d.f).getD k 0 = 0
      · rw [h0] at hget
        have q48 : (((T[k]'hks).toNat : Int) != 48) = false := by rw [hget]; rfl
        have HN := Lib.hid (show ∀ j, j < k + 1 → (d.i ++ d.f).getD j 0 = 0 from fun j hj => by
          by_cases e : j = k
          · rw [e]; exact h0
          · exact HZ.out j (by omega))
        clear h0 hget hll
        go_wp2
        go_round
        case rel => exact ⟨k + 1, by first | rfl | go_num, by omega, HN.out⟩
        case measure => simp [intOf]; omega
      · have q48 : (((T[k]'hks).toNat : Int) != 48) = true := by rw [hget, bne_iff_ne]; omega
        have hs := sig_at HD.out hll HZ.out h0
        have HS : Hid ((sigD d : Nat) = d.i.length + d.f.length - k) := by
          show _ = _
          unfold sigD cntL
          rw [if_neg hs.1, hs.2, List.length_append]
        have wz : IntKind.i64.wrap ((d.i.length : Int) + (d.f.length : Int) - (k : Int)) = (d.i.length : Int) + (d.f.length : Int) - (k : Int) := IntWalk.i64_in _ (by omega)
        clear h0 hget hll hs
        go_wp2
        go_ret
        exact ⟨ret_int (by rw [HS.out]; omega), (Below.refl _ w).alloc (Nat.le_refl _) _⟩
    · have j1 : ¬ (k : Int) < (d.i.length : Int) + (d.f.length : Int) := by omega
      have HS : Hid ((sigD d : Nat) = d.i.length + d.f.length) := by
        show _ = _
        unfold sigD cntL
        rw [if_pos, List.length_append]
        exact sig_none (fun j hj => HZ.out j (by rw [List.length_append] at hj; omega))
      go_wp2
      go_ret
      exact ⟨ret_int (by rw [HS.out]; omega), (Below.refl _ w).alloc (Nat.le_refl _) _⟩

set_option maxHeartbeats 2000000 in
set_option maxRecDepth 100000 in
theorem count_any (n : Bool) (li lf : List Nat) (w : World) (hi : Digs li) (hf : Digs lf) (hl : li.length + lf.length ≤ 1000) :
    Calls Try.prog 61 #[(.agg #[.bool n, .string (dStr li), .string (dStr lf)])] w fun e w' => e = .returned (.int .i64 (cntL (li ++ lf) : Nat)) ∧ Below w.heap.size w w' := by
  have g1 : ¬ 9223372036854775807 < (dStr li).size + (dStr lf).size := by rw [dStr_size, dStr_size]; omega
  obtain ⟨T, hT⟩ : ∃ T, T = dStr (li ++ lf) := ⟨_, rfl⟩
  have hTz : T.size = li.length + lf.length := by rw [hT, dStr_size, List.length_append]
  have hap : dStr li ++ dStr lf = T := by rw [dStr_append, hT]
  obtain ⟨U, hU⟩ : ∃ U, U = dStr (digs (dVal (li ++ lf))) := ⟨_, rfl⟩
  have hUz : U.size = (digs (dVal (li ++ lf))).length := by rw [hU, dStr_size]
  have hz := zero_text (dVal (li ++ lf))
  rw [← hU] at hz
  have DL : Hid (∀ wx : World, Calls Try.prog 62 #[.string T] wx fun r w' => r = .returned (.string U) ∧ wx = w') := fun wx => by
    rw [hT, hU]
    exact rlead_any (li ++ lf) wx (hi.append hf) (by rw [List.length_append]; omega)
  obtain ⟨K, hK⟩ : ∃ K, K = cntL (li ++ lf) := ⟨_, rfl⟩
  rw [← hK]
  by_cases h0 : dVal (li ++ lf) = 0
  · have hz0 : (U.toList == [48]) = true := by rw [hz, decide_eq_true h0]
    have HK : Hid ((K : Int) = (li.length : Int) + (lf.length : Int)) := by
      show _ = _
      rw [hK]
      unfold cntL
      rw [if_pos h0, List.length_append]
      omega
    clear hz h0 hU hT hUz hK hi hf
    go_enter Try.func61, Try.ntmps61
    go_wp2_with fail
    (with_reducible refine (DL.out _).mono ?_)
    rintro e W1 ⟨rfl, rfl⟩
    go_wp2
    go_ret
    exact ⟨ret_int (by rw [HK.out]), (Below.refl _ w).alloc (Nat.le_refl _) _⟩
  · have hz0 : (U.toList == [48]) = false := by rw [hz, decide_eq_false h0]
    have HK : Hid ((K : Int) = (U.size : Int)) := by
      show _ = _
      rw [hK, hUz]
      unfold cntL
      rw [if_neg h0]
    clear hz h0 hU hT hUz hK hi hf
    go_enter Try.func61, Try.ntmps61
    go_wp2_with fail
    (with_reducible refine (DL.out _).mono ?_)
    rintro e W1 ⟨rfl, rfl⟩
    go_wp2_with fail
    (with_reducible refine (DL.out _).mono ?_)
    rintro e W1 ⟨rfl, rfl⟩
    go_wp2
    go_ret
    exact ⟨ret_int (by rw [HK.out]), (Below.refl _ w).alloc (Nat.le_refl _) _⟩
end Go.Proofs.Ytcdmanhhddcmcaa
