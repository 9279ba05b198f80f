/- decimalOf: a decimal made of digits at a scale. -/
import Derived.Test.YtmggdnnffdaffaaDoorDDigs
namespace Go.Proofs.YtmggdnnffdaffaaDoor
open Go.RowKit
attribute [local go_sem ↓] Go.wp_at_zero Go.wp_at_succ

/-- An answer's parts: the sign, both texts, the error. -/
def oN (o : Option Dc) : Bool := match o with | some d => d.neg | none => false
def oI (o : Option Dc) : ByteArray := match o with | some d => dStr d.i | none => ⟨#[]⟩
def oF (o : Option Dc) : ByteArray := match o with | some d => dStr d.f | none => ⟨#[]⟩
def oE (o : Option Dc) : Int := match o with | some _ => 0 | none => 3

theorem strip_val {l : List Nat} {k : Nat} (hz : ∀ j, j < k → l.getD j 0 = 0) (hk : k ≤ l.length) : l = List.replicate k 0 ++ l.drop k := by
  apply List.ext_getElem?
  intro j
  by_cases h : j < k
  · have h1 := hz j h
    rw [List.getD_eq_getElem?_getD, List.getElem?_eq_getElem (by omega)] at h1
    rw [List.getElem?_append_left (by simpa using h), List.getElem?_replicate, if_pos h, List.getElem?_eq_getElem (by omega)]
    simpa using h1
  · rw [List.getElem?_append_right (by simp; omega)]
    simp only [List.length_replicate, List.getElem?_drop]
    congr 1
    omega
theorem strip_pad {l : List Nat} (hl : Digs l) {k : Nat} (hz : ∀ j, j < k → l.getD j 0 = 0) (hk : k ≤ l.length) (he : k = l.length ∨ l.getD k 0 ≠ 0) (s : Nat) :
    List.replicate (max (l.length - k) (s + 1) - (l.length - k)) 0 ++ l.drop k = padTo (s + 1) (digs (dVal l)) ∧ decide (dVal l ≠ 0) = decide (0 < l.length - k) := by
  have e := strip_val hz hk
  have hv : dVal l = dVal (l.drop k) := by
    rw [e, dVal_append, dVal_zeros, ← e]
    omega
  rcases Nat.lt_or_ge k l.length with hlt | hge
  · have h0 : l.getD k 0 ≠ 0 := by
      rcases he with he | he
      · omega
      · exact he
    have hc : l.drop k = l.getD k 0 :: l.drop (k + 1) := by
      rw [List.drop_eq_getElem_cons hlt, List.getD_eq_getElem?_getD, List.getElem?_eq_getElem hlt]
      rfl
    have hd : digs (dVal (l.drop k)) = l.drop k := by
      rw [← dLead_digs _ (hl.drop k), hc]
      cases hm : l.drop (k + 1) with
      | nil => rfl
      | cons a b => exact if_neg h0
    rw [hv, hd]
    refine ⟨?_, ?_⟩
    · unfold padTo
      congr 2
      simp only [List.length_drop]
      omega
    · rw [decide_eq_true (p := 0 < l.length - k) (by omega)]
      refine decide_eq_true fun h => ?_
      rw [hc, dVal_cons] at h
      have : 0 < 10 ^ (l.drop (k + 1)).length := Nat.pow_pos (by omega)
      have h2 : l.getD k 0 * 10 ^ (l.drop (k + 1)).length = 0 := by omega
      rcases Nat.mul_eq_zero.1 h2 with h3 | h3
      · exact h0 h3
      · omega
  · have hn : l.drop k = [] := List.drop_eq_nil_of_le hge
    rw [hv, hn, dVal_nil]
    refine ⟨?_, ?_⟩
    · have e0 : digs 0 = [0] := by unfold digs; rw [digsR_small (by omega)]; rfl
      rw [e0]
      unfold padTo
      have : l.length - k = 0 := by omega
      rw [this]
      simp only [List.append_nil, List.length_singleton, Nat.add_sub_cancel]
      rw [show max 0 (s + 1) - 0 = s + 1 by omega]
      exact List.replicate_succ'
    · rw [decide_eq_false (by omega), decide_eq_false (by omega)]

/-- The digits that are left, with noughts ahead, are the answer's. -/
theorem make_facts (neg : Bool) {l : List Nat} (hl : Digs l) {k m : Nat} (hz : ∀ j, j < k → l.getD j 0 = 0) (hm : m + k = l.length) (he : k = l.length ∨ l.getD k 0 ≠ 0) (s N : Nat) (hN : N = max m (s + 1)) :
    ∃ P, Digs P ∧ P.length = N ∧ List.replicate (N - m) 0 ++ l.drop k = P ∧ (40 < N → mkN neg (dVal l) s = none) ∧ (¬ 40 < N → mkN neg (dVal l) s = some ⟨neg && decide (0 < m), P.take (N - s), P.drop (N - s)⟩) := by
  obtain ⟨p1, p2⟩ := strip_pad hl hz (by omega) he s
  rw [show l.length - k = m by omega, ← hN] at p1
  rw [show l.length - k = m by omega] at p2
  have pl : (padTo (s + 1) (digs (dVal l))).length = N := by
    rw [← p1]
    simp
    omega
  refine ⟨padTo (s + 1) (digs (dVal l)), padTo_digs (digs_digs _), pl, p1, fun h => ?_, fun h => ?_⟩
  · rw [mkN_digs, pl, if_pos h]
  · rw [mkN_digs, pl, if_neg h, p2]

theorem splice_top {N m : Nat} {ds P : List Nat} (h : List.replicate (N - m) 0 ++ ds = P) (hl : N - m + ds.length = N) : splice (nC (List.replicate N 0)) (N - m) (nC ds) = nC P := by
  unfold splice
  rw [nC_len, ← nC_take, ← nC_drop, List.take_replicate, List.drop_eq_nil_of_le (by simp; omega), ← h, nC_append, show min (N - m) N = N - m by omega]
  simp [nC]

/-- A slice that reads as digits. -/
def DgS (w : World) (B g off : Nat) (A : Option Addr) (l : List Nat) (c : Nat) : Prop := l.length ≤ c ∧ (0 < l.length → A = some ⟨g, off, none⟩ ∧ g < B) ∧ ∀ j, j < l.length → w.cell? ⟨g, off + j, none⟩ = some (.int .u8 ((l.getD j 0 : Nat) : Int))
theorem DgS.below {w w' : World} {B C g off c : Nat} {A : Option Addr} {l : List Nat} (h : DgS w B g off A l c) (hb : Below C w w') (hBC : B ≤ C) : DgS w' B g off A l c :=
  ⟨h.1, h.2.1, fun j hj => (hb.cell (p := ⟨g, off + j, none⟩) (by have := (h.2.1 (by omega)).2; show g < C; omega)).trans (h.2.2 j hj)⟩
theorem DgS.of_blk {w : World} {g : Nat} {l : List Nat} {B : Nat} (h : Blk w g (nC l)) (hg : g < B) : DgS w B g 0 (some ⟨g, 0, none⟩) l l.length :=
  ⟨Nat.le_refl _, fun _ => ⟨rfl, hg⟩, fun j hj => by rw [Nat.zero_add, h.cell]; exact nC_get l j hj⟩

/-- copy(b[n:], s): a slice's digits over the last cells of a fresh block. -/
theorem wp_copy_top {w : World} {ops : Array Oper} {rest : List Oper} {o : Oper} {a : Act} {Q : Exit → Act → World → Prop} (hgd : o.guard = none) (d s : Operand)
    (ho : o.op = .call { callee := .builtin .copy, args := #[d, s], argTypes := #[71, 71] })
    (dp sp : Option Addr) (dLen dCap sLen sCap : Nat) (hd : a.eval d = .slice dp dLen dCap) (hs : a.eval s = .slice sp sLen sCap) (g g2 off N : Nat) (ds P : List Nat) (hP : List.replicate (N - ds.length) 0 ++ ds = P) (hN : ds.length ≤ N)
    (h1 : sLen = ds.length) (h2 : dLen = ds.length) (hpos : 0 < ds.length → dp = some ⟨g2, N - ds.length, none⟩ ∧ sp = some ⟨g, off, none⟩) (hc : ∀ j, j < ds.length → w.cell? ⟨g, off + j, none⟩ = some (.int .u8 ((ds.getD j 0 : Nat) : Int))) (hg : Blk w g2 (nC (List.replicate N 0)))
    (h : ∀ w', Hid (Blk w' g2 (nC P)) → Below g2 w w' → wpList Tryd.prog ops Q rest (a.put o.dst (goInt ds.length)) w') :
    wpList Tryd.prog ops Q (o :: rest) a w := by
  refine wpList_copy_splice hgd d s 71 71 ho 5 Tryd.underlying71 bytes_size dp sp dLen dCap sLen sCap hd hs g2 (N - ds.length) (nC (List.replicate N 0)) 5 hg (nC ds) ?_ ?_ ?_ (nC_one _) g2 w (Below.refl _ _) (Nat.le_refl _) ?_
  · rw [nC_len, h1, h2]
    exact (Nat.min_self _).symm
  · intro h0
    rw [nC_len] at h0
    obtain ⟨p1, p2⟩ := hpos h0
    refine ⟨p1, _, p2, fun j v hv => ?_⟩
    have hj : j < ds.length := by
      have := (List.getElem?_eq_some_iff.1 hv).1
      rwa [nC_len] at this
    rw [nC_get ds j hj] at hv
    rw [← Option.some.inj hv, ← hc j hj]
    congr 1
    unfold Addr.add
    split <;> simp_all
  · rw [nC_len, nC_len, List.length_replicate]
    omega
  · intro w' hk hb
    rw [nC_len]
    refine h w' ?_ hb
    rw [← splice_top hP (by omega)]
    exact hk
theorem cell_set_same (w : World) (p : Addr) (x v : Value) (h : w.cell? p = some v) : (w.setCell p x).cell? p = some x := World.cell?_setCell_same _ _ _ h
theorem cell_set_far (w : World) (b i j : Nat) (x v : Value) (hij : i ≠ j) (h : w.cell? ⟨b, j, none⟩ = some v) : (w.setCell ⟨b, i, none⟩ x).cell? ⟨b, j, none⟩ = some v := (World.cell?_setCell_other _ _ _ _ (fun e => hij (congrArg Addr.off e))).trans h
/-- A string made of a block's bytes. -/
theorem blk_string (w : World) (g : Nat) (P Q : List Nat) (off n cap : Nat) (S : ByteArray) (hS : S = dStr Q) (h : Blk w g (Lib.byteCells (dB P))) (hQ : (P.drop off).take n = Q) (hl : off + n ≤ P.length) :
    (convert 71 9 (.slice (some ⟨g, off, none⟩) n cap)).run Tryd.prog w.drew = .ok (.string S) w.drew := by
  have e : (((dB P).drop off).take n).length = n := by rw [List.length_take, List.length_drop, dB_len]; omega
  have := run_convert_bytes_back (P := Tryd.prog) w.drew 71 9 5 ⟨g, off, none⟩ cap (((dB P).drop off).take n) Tryd.underlying71 Tryd.underlying5 Tryd.underlying9 (by
    intro j hj
    have hj' : j < n := by rw [e] at hj; exact hj
    have hadd : (⟨g, off, none⟩ : Addr).add j = ⟨g, off + j, none⟩ := by unfold Addr.add; split <;> simp_all
    have hc : w.drew.cell? ⟨g, off + j, none⟩ = w.cell? ⟨g, off + j, none⟩ := rfl
    rw [hadd, hc, h.cell]
    have hjl : off + j < (dB P).length := by rw [dB_len]; omega
    unfold Lib.byteCells
    rw [List.getElem?_map, List.getElem?_eq_getElem hjl]
    simp)
  rw [e] at this
  rw [this, hS, ← hQ]
  unfold dStr dB
  simp [List.map_take, List.map_drop]
/-- Digits made letters: so many are done. -/
def lets (P : List Nat) (j : Nat) : List Nat := (P.take j).map (48 + ·) ++ P.drop j
theorem lets_zero (P : List Nat) : lets P 0 = P := rfl
theorem lets_len (P : List Nat) (j : Nat) : (lets P j).length = P.length := by unfold lets; simp; omega
theorem lets_end (P : List Nat) (j : Nat) (h : ¬ j < P.length) : lets P j = P.map (48 + ·) := by unfold lets; rw [List.take_of_length_le (by omega), List.drop_eq_nil_of_le (by omega)]; simp
theorem lets_step (P : List Nat) (j : Nat) (h : j < P.length) : (lets P j).getD j 0 = P.getD j 0 ∧ (lets P j).set j (48 + P.getD j 0) = lets P (j + 1) := by
  have e1 : P.drop j = P.getD j 0 :: P.drop (j + 1) := by
    rw [List.drop_eq_getElem_cons h, List.getD_eq_getElem?_getD, List.getElem?_eq_getElem h]
    rfl
  have e2 : P.take (j + 1) = P.take j ++ [P.getD j 0] := by
    rw [List.take_succ_eq_append_getElem h, List.getD_eq_getElem?_getD, List.getElem?_eq_getElem h]
    rfl
  have e3 : lets P j = (P.take j).map (48 + ·) ++ P.getD j 0 :: P.drop (j + 1) := by unfold lets; rw [e1]
  have hj : j = ((P.take j).map (48 + ·)).length := by simp; omega
  rw [e3]
  refine ⟨get_mid _ _ _ _ hj, ?_⟩
  rw [set_mid _ _ _ _ _ hj]
  unfold lets
  rw [e2]
  simp

set_option maxHeartbeats 4000000 in
set_option maxRecDepth 100000 in
theorem decimalOf_any (neg : Bool) (l : List Nat) (A : Option Addr) (g off c scale : Nat) (w : World) (o : Option Dc) (ho : mkN neg (dVal l) scale = o) (hl : Digs l) (hS : DgS w w.heap.size g off A l c) (h1 : l.length ≤ 1000000) (h2 : scale ≤ 1000000) (h3 : c ≤ maxLen) :
    Calls Tryd.prog 34 #[.bool neg, .slice A l.length c, .int .i64 scale] w fun e w' => e = .returned (.tuple #[.agg #[.bool (oN o), .string (oI o), .string (oF o)], .int .i64 (oE o)]) ∧ Below w.heap.size w w' := by
  have HL := Lib.hid hl
  have HO := Lib.hid ho
  clear ho
  obtain ⟨s1, s2, s3⟩ := hS
  have S2 := Lib.hid s2
  have S3 := Lib.hid s3
  clear hl s2 s3
  unfold maxLen at h3
  go_enter Tryd.func34, Tryd.ntmps34
  go_wp2
  go_loop [1] (fun v => ∃ (k m c' : Nat) (A' : Option Addr), v = .slice A' m c' ∧ m + k = l.length ∧ m ≤ c' ∧ c' ≤ c ∧ (0 < m → A' = some ⟨g, off + k, none⟩) ∧ ∀ j, j < k → l.getD j 0 = 0) (fun v => match v with | .slice _ n _ => n | _ => 0)
  case atStart => exact ⟨0, l.length, c, A, rfl, by omega, s1, by omega, fun h => (S2.out h).1, fun j hj => by omega⟩
  case round =>
    obtain ⟨k, m, c', A', rfl, hm, hmc, hcc, hA, hZ⟩ := hrel
    have HA := Lib.hid hA
    have HZ := Lib.hid hZ
    clear hA hZ
    by_cases hgo : 0 < m ∧ l.getD k 0 = 0
    · obtain ⟨hm0, h0⟩ := hgo
      obtain rfl := HA.out hm0
      have hg := (S2.out (by omega)).2
      have hc := (Below.refl w.heap.size w).alloc (Nat.le_refl _) (.cells #[.bool false, .string ⟨#[]⟩, .string ⟨#[]⟩] 27) |>.cell (p := ⟨g, off + k, none⟩) hg
      rw [S3.out k (by omega)] at hc
      rw [h0] at hc
      have H0 := Lib.hid h0
      clear h0
      by_cases hc1 : c' = 1
      · subst hc1
        obtain rfl : m = 1 := by omega
        go_wp2
        go_round
        case rel =>
          exact ⟨k + 1, 0, 0, _, rfl, by omega, by omega, by omega, fun h => absurd h (by omega), fun j hj => by
            by_cases e : j = k
            · subst e; exact H0.out
            · exact HZ.out j (by omega)⟩
        case measure => simp
      · go_wp2
        go_round
        case rel =>
          exact ⟨k + 1, m - 1, c' - 1, _, rfl, by omega, by omega, by omega, fun h => rfl, fun j hj => by
            by_cases e : j = k
            · subst e; exact H0.out
            · exact HZ.out j (by omega)⟩
        case measure => simp; omega
    have hx : m = 0 ∨ 0 < m ∧ l.getD k 0 ≠ 0 := by
      by_cases e : m = 0
      · exact .inl e
      · exact .inr ⟨by omega, fun h => hgo ⟨by omega, h⟩⟩
    clear hgo
    rcases hx with hm0 | ⟨hm0, h0⟩
    · have PF := make_facts neg HL.out HZ.out hm (.inl (by omega)) scale
      have q : decide ((0 : Int) < (m : Int)) = false := decide_eq_false (by omega)
      subst hm0
      obtain ⟨P, P1, P2, P3, P4, P5⟩ := PF (scale + 1) (by omega)
      have HP1 := Lib.hid P1
      have HP2 := Lib.hid P2
      have HLD : Hid ((l.drop k).length = 0) := by show _ = _; rw [List.length_drop]; omega
      have HP3 : Hid (List.replicate (scale + 1 - (l.drop k).length) 0 ++ l.drop k = P) := by rw [HLD.out]; exact P3
      clear P1 P2 P3 PF
      rw [HO.out] at P4 P5
      by_cases h40 : 40 < scale + 1
      · have q40 : decide ((40 : Int) < (scale : Int) + 1) = true := decide_eq_true (by omega)
        have H5 := Lib.hid (P4 h40)
        clear P4 P5
        go_wp2
        exact bodyPost_ret (v := .tuple #[.agg #[.bool false, .string ⟨#[]⟩, .string ⟨#[]⟩], .int .i64 3]) (by simp [results, Tryd.results34, go_sem]) rfl ⟨by rw [H5.out]; rfl, (Below.refl _ w).alloc (Nat.le_refl _) _⟩
      · have q40 : decide ((40 : Int) < (scale : Int) + 1) = false := decide_eq_false (by omega)
        have H5 := Lib.hid (P5 h40)
        clear P4 P5
        obtain ⟨Z, hZ⟩ : ∃ Z, Z = (nC (List.replicate (scale + 1) 0)).toArray := ⟨_, rfl⟩
        have hmk := fun w => make_bytes (scale + 1) (by omega) w Z hZ
        try rw [show (((scale + 1) : Nat) : Int) = (scale : Int) + 1 by omega] at hmk
        have HZ2 := Lib.hid hZ
        clear hZ
        have K0 : Blk ((w.alloc (.cells #[.bool false, .string ⟨#[]⟩, .string ⟨#[]⟩] 27)).alloc (.cells Z 5)) (w.heap.size + 1) (nC (List.replicate (scale + 1) 0)) := by
          have := Blk.new (w.alloc (.cells #[.bool false, .string ⟨#[]⟩, .string ⟨#[]⟩] 27)) (nC (List.replicate (scale + 1) 0)) Z HZ2.out
          rw [show (w.alloc (.cells #[.bool false, .string ⟨#[]⟩, .string ⟨#[]⟩] 27)).heap.size = w.heap.size + 1 by simp] at this
          exact this
        have HK0 := Lib.hid K0
        clear K0
        have HB0 := Lib.hid (((Below.refl _ w).alloc (Nat.le_refl _) (.cells #[.bool false, .string ⟨#[]⟩, .string ⟨#[]⟩] 27)).alloc (by simp) (.cells Z 5))
        have HR0 : Hid (((w.alloc (.cells #[.bool false, .string ⟨#[]⟩, .string ⟨#[]⟩] 27)).alloc (.cells Z 5)).heap[w.heap.size]? = some (.cells #[.bool false, .string ⟨#[]⟩, .string ⟨#[]⟩] 27 (0, 0))) := by
          show _ = _
          rw [Below.heap_alloc _ _ _ (by simp)]
          exact heap_alloc_new w _
        have HC : Hid (∀ j, j < (l.drop k).length → ((w.alloc (.cells #[.bool false, .string ⟨#[]⟩, .string ⟨#[]⟩] 27)).alloc (.cells Z 5)).cell? ⟨g, off + k + j, none⟩ = some (.int .u8 (((l.drop k).getD j 0 : Nat) : Int))) := by
          intro j hj
          rw [HLD.out] at hj
          rw [(HB0.out.cell (p := ⟨g, off + k + j, none⟩) (S2.out (by omega)).2), Nat.add_assoc, S3.out (k + j) (by omega)]
          congr 3
          rw [List.getD_eq_getElem?_getD, List.getD_eq_getElem?_getD, List.getElem?_drop]
        go_wp2_with (refine wp_copy_top (o := ⟨some 39, _, _, _, _, _⟩) (by rfl) _ _ (by rfl) _ _ _ _ _ _ (by rfl) (by rfl) g (w.heap.size + 1) (off + k) (scale + 1) (l.drop k) P HP3.out (by have := HLD.out; omega) (by have := HLD.out; omega) (by have := HLD.out; omega) (by intro h0; exfalso; have := HLD.out; omega) HC.out HK0.out ?_)
        intro W3 K3 B3
        have B4 := Lib.hid (HB0.out.trans (B3.mono (Nat.le_succ _)))
        have R4 : Hid (W3.heap[w.heap.size]? = some (.cells #[.bool false, .string ⟨#[]⟩, .string ⟨#[]⟩] 27 (0, 0))) := (B3.block _ (Nat.lt_succ_self _)).trans HR0.out
        clear B3 HB0 HR0 HC HK0 hmk HP3
        go_wp2
        go_loopw [42] (fun i wr => ∃ j : Nat, i = .int .i64 j ∧ j ≤ scale + 1 ∧ Blk wr (w.heap.size + 1) (nC (lets P j)) ∧ Below w.heap.size w wr ∧ wr.heap[w.heap.size]? = some (.cells #[.bool false, .string ⟨#[]⟩, .string ⟨#[]⟩] 27 (0, 0))) (fun i _ => scale + 1 - (intOf i).toNat)
        case atStart => exact ⟨0, rfl, by omega, K3.out, B4.out, R4.out⟩
        case round =>
          obtain ⟨j, rfl, hj, hB, hbw, hR⟩ := hrel
          have HB := Lib.hid hB
          have hf := hB.frozen j
          have HW := Lib.hid hbw
          have HR := Lib.hid hR
          clear hB hbw hR
          by_cases hlt : j < scale + 1
          · obtain ⟨g1, g2⟩ := lets_step P j (by rw [HP2.out]; exact hlt)
            have hd : P.getD j 0 < 10 := by
              have hj2 : j < P.length := by rw [HP2.out]; exact hlt
              rw [List.getD_eq_getElem?_getD, List.getElem?_eq_getElem hj2]
              exact HP1.out _ (List.getElem_mem _)
            have hc2 : wr.cell? ⟨w.heap.size + 1, j, none⟩ = some (.int .u8 (P.getD j 0 : Int)) := by
              rw [HB.out.cell, nC_get _ _ (by rw [lets_len, HP2.out]; exact hlt), g1]
            generalize P.getD j 0 = d2 at *
            have G2 := Lib.hid g2
            clear g1 g2
            go_wp2
            go_roundw
            case rel => exact ⟨j + 1, by go_num, by omega, by
              have := HB.out.set_ j (.int .u8 ((48 + d2 : Nat) : Int))
              rw [nC_set, G2.out] at this
              rw [show ((d2 : Int) + 48) = ((48 + d2 : Nat) : Int) by omega]
              exact this, HW.out.setCell (p := ⟨w.heap.size + 1, j, none⟩) (Nat.le_succ _) _, by
              rw [Below.heap_setCell _ _ _ _ (by show w.heap.size ≠ w.heap.size + 1; omega)]
              exact HR.out⟩
            case measure => simp [intOf]; omega
          · have HE := Lib.hid (lets_end P j (by rw [HP2.out]; exact hlt))
            have HBB : Hid (Blk wr (w.heap.size + 1) (Lib.byteCells (dB P))) := by
              rw [byte_cells_of P HP1.out, ← HE.out]
              exact HB.out
            have HLE : Hid ((dB P).length = scale + 1) := by show _ = _; rw [dB_len, HP2.out]
            clear HB HE hf
            obtain ⟨S1, hS1⟩ : ∃ S1, S1 = dStr (P.take (scale + 1 - scale)) := ⟨_, rfl⟩
            obtain ⟨S2, hS2⟩ : ∃ S2, S2 = dStr (P.drop (scale + 1 - scale)) := ⟨_, rfl⟩
            have HS1 := Lib.hid hS1
            have HS2 := Lib.hid hS2
            have r0 : wr.cell? ⟨w.heap.size, 0, none⟩ = some (.bool false) := by rw [cell_of_row wr w.heap.size 0 _ _ _ HR.out]; rfl
            have r1 : wr.cell? ⟨w.heap.size, 1, none⟩ = some (.string ⟨#[]⟩) := by rw [cell_of_row wr w.heap.size 1 _ _ _ HR.out]; rfl
            have r2 : wr.cell? ⟨w.heap.size, 2, none⟩ = some (.string ⟨#[]⟩) := by rw [cell_of_row wr w.heap.size 2 _ _ _ HR.out]; rfl
            have z0 : wr.frozen? ⟨w.heap.size, 0, none⟩ = false := by simp [World.frozen?, HR.out]
            have z1 : wr.frozen? ⟨w.heap.size, 1, none⟩ = false := by simp [World.frozen?, HR.out]
            have z2 : wr.frozen? ⟨w.heap.size, 2, none⟩ = false := by simp [World.frozen?, HR.out]
            have PL := Lib.hid HP2.out
            have HBl : Hid (∀ x : Value, Below w.heap.size w (((wr.setCell ⟨w.heap.size, 0, none⟩ x).setCell ⟨w.heap.size, 1, none⟩ (.string S1)).setCell ⟨w.heap.size, 2, none⟩ (.string S2))) := fun x => ((HW.out.setCell (p := ⟨w.heap.size, 0, none⟩) (Nat.le_refl _) x).setCell (p := ⟨w.heap.size, 1, none⟩) (Nat.le_refl _) (.string S1)).setCell (p := ⟨w.heap.size, 2, none⟩) (Nat.le_refl _) (.string S2)
            have e0 : ∀ x : Value, (wr.setCell ⟨w.heap.size, 0, none⟩ x).cell? ⟨w.heap.size, 0, none⟩ = some x := fun x => cell_set_same wr _ x _ r0
            have e1 : ∀ x y : Value, ((wr.setCell ⟨w.heap.size, 0, none⟩ x).setCell ⟨w.heap.size, 1, none⟩ y).cell? ⟨w.heap.size, 1, none⟩ = some y := fun x y => cell_set_same _ _ y _ (cell_set_far _ _ _ _ _ _ (by decide) r1)
            have e2 : ∀ x y z : Value, (((wr.setCell ⟨w.heap.size, 0, none⟩ x).setCell ⟨w.heap.size, 1, none⟩ y).setCell ⟨w.heap.size, 2, none⟩ z).cell? ⟨w.heap.size, 2, none⟩ = some z := fun x y z => cell_set_same _ _ z _ (cell_set_far _ _ _ _ _ _ (by decide) (cell_set_far _ _ _ _ _ _ (by decide) r2))
            by_cases hsc : scale = 0
            · subst hsc
              have kc1 := blk_string wr (w.heap.size + 1) P _ 0 (1) (1) S1 hS1 HBB.out (by rw [List.drop_zero]) (by rw [PL.out]; omega)
              have kc2 := blk_string wr (w.heap.size + 1) P _ 0 0 0 S2 hS2 HBB.out (by rw [List.take_zero, List.drop_eq_nil_of_le (by rw [PL.out]; omega)]) (by omega)
              clear hS1 hS2
              cases neg
              · go_wp2
                go_region
                go_wp2
                exact bodyPost_ret (v := .tuple #[.agg #[.bool false, .string S1, .string S2], .int .i64 0]) (by simp [results, Tryd.results34, go_sem, e0, e1, e2]) rfl ⟨by rw [H5.out, HS1.out, HS2.out]; rfl, (HBl.out _).trans ⟨rfl, rfl, rfl, Nat.le_refl _, fun _ _ => rfl⟩⟩
              · go_wp2
                go_region
                go_wp2
                exact bodyPost_ret (v := .tuple #[.agg #[.bool false, .string S1, .string S2], .int .i64 0]) (by simp [results, Tryd.results34, go_sem, e0, e1, e2]) rfl ⟨by rw [H5.out, HS1.out, HS2.out]; rfl, (HBl.out _).trans ⟨rfl, rfl, rfl, Nat.le_refl _, fun _ _ => rfl⟩⟩
            · have kc1 := blk_string wr (w.heap.size + 1) P _ 0 (1) (scale + 1) S1 hS1 HBB.out (by rw [List.drop_zero]; congr 1; omega) (by rw [PL.out]; omega)
              have kc2 := blk_string wr (w.heap.size + 1) P _ (1) scale scale S2 hS2 HBB.out (by rw [List.take_of_length_le (by rw [List.length_drop, PL.out]; omega)]; congr 1; omega) (by rw [PL.out]; omega)
              clear hS1 hS2
              cases neg
              · go_wp2
                go_region
                go_wp2
                exact bodyPost_ret (v := .tuple #[.agg #[.bool false, .string S1, .string S2], .int .i64 0]) (by simp [results, Tryd.results34, go_sem, e0, e1, e2]) rfl ⟨by rw [H5.out, HS1.out, HS2.out]; rfl, (HBl.out _).trans ⟨rfl, rfl, rfl, Nat.le_refl _, fun _ _ => rfl⟩⟩
              · go_wp2
                go_region
                go_wp2
                exact bodyPost_ret (v := .tuple #[.agg #[.bool false, .string S1, .string S2], .int .i64 0]) (by simp [results, Tryd.results34, go_sem, e0, e1, e2]) rfl ⟨by rw [H5.out, HS1.out, HS2.out]; rfl, (HBl.out _).trans ⟨rfl, rfl, rfl, Nat.le_refl _, fun _ _ => rfl⟩⟩
    · have PF := make_facts neg HL.out HZ.out hm (.inr h0) scale
      obtain rfl := HA.out hm0
      have hg := (S2.out (by omega)).2
      have hc := (Below.refl w.heap.size w).alloc (Nat.le_refl _) (.cells #[.bool false, .string ⟨#[]⟩, .string ⟨#[]⟩] 27) |>.cell (p := ⟨g, off + k, none⟩) hg
      rw [S3.out k (by omega)] at hc
      have hd0 : 0 < l.getD k 0 := by omega
      clear h0 HA
      generalize l.getD k 0 = d at *
      have q3 : ((d : Int) == 0) = false := by simp; omega
      have q : decide ((0 : Int) < (m : Int)) = true := decide_eq_true (by omega)
      by_cases hms : m < scale + 1
      · have q4 : decide ((m : Int) < (scale : Int) + 1) = true := decide_eq_true (by omega)
        have q5 : ((scale : Int) + 1 - (m : Int)).toNat = scale + 1 - m := by omega
        obtain ⟨P, P1, P2, P3, P4, P5⟩ := PF (scale + 1) (by omega)
        have HP1 := Lib.hid P1
        have HP2 := Lib.hid P2
        have HLD : Hid ((l.drop k).length = m) := by show _ = _; rw [List.length_drop]; omega
        have HP3 : Hid (List.replicate (scale + 1 - (l.drop k).length) 0 ++ l.drop k = P) := by rw [HLD.out]; exact P3
        clear P1 P2 P3 PF
        rw [HO.out] at P4 P5
        by_cases h40 : 40 < scale + 1
        · have q40 : decide ((40 : Int) < (scale : Int) + 1) = true := decide_eq_true (by omega)
          have H5 := Lib.hid (P4 h40)
          clear P4 P5
          go_wp2
          exact bodyPost_ret (v := .tuple #[.agg #[.bool false, .string ⟨#[]⟩, .string ⟨#[]⟩], .int .i64 3]) (by simp [results, Tryd.results34, go_sem]) rfl ⟨by rw [H5.out]; rfl, (Below.refl _ w).alloc (Nat.le_refl _) _⟩
        · have q40 : decide ((40 : Int) < (scale : Int) + 1) = false := decide_eq_false (by omega)
          have H5 := Lib.hid (P5 h40)
          clear P4 P5
          obtain ⟨Z, hZ⟩ : ∃ Z, Z = (nC (List.replicate (scale + 1) 0)).toArray := ⟨_, rfl⟩
          have hmk := fun w => make_bytes (scale + 1) (by omega) w Z hZ
          try rw [show (((scale + 1) : Nat) : Int) = (scale : Int) + 1 by omega] at hmk
          have HZ2 := Lib.hid hZ
          clear hZ
          have K0 : Blk ((w.alloc (.cells #[.bool false, .string ⟨#[]⟩, .string ⟨#[]⟩] 27)).alloc (.cells Z 5)) (w.heap.size + 1) (nC (List.replicate (scale + 1) 0)) := by
            have := Blk.new (w.alloc (.cells #[.bool false, .string ⟨#[]⟩, .string ⟨#[]⟩] 27)) (nC (List.replicate (scale + 1) 0)) Z HZ2.out
            rw [show (w.alloc (.cells #[.bool false, .string ⟨#[]⟩, .string ⟨#[]⟩] 27)).heap.size = w.heap.size + 1 by simp] at this
            exact this
          have HK0 := Lib.hid K0
          clear K0
          have HB0 := Lib.hid (((Below.refl _ w).alloc (Nat.le_refl _) (.cells #[.bool false, .string ⟨#[]⟩, .string ⟨#[]⟩] 27)).alloc (by simp) (.cells Z 5))
          have HR0 : Hid (((w.alloc (.cells #[.bool false, .string ⟨#[]⟩, .string ⟨#[]⟩] 27)).alloc (.cells Z 5)).heap[w.heap.size]? = some (.cells #[.bool false, .string ⟨#[]⟩, .string ⟨#[]⟩] 27 (0, 0))) := by
            show _ = _
            rw [Below.heap_alloc _ _ _ (by simp)]
            exact heap_alloc_new w _
          have HC : Hid (∀ j, j < (l.drop k).length → ((w.alloc (.cells #[.bool false, .string ⟨#[]⟩, .string ⟨#[]⟩] 27)).alloc (.cells Z 5)).cell? ⟨g, off + k + j, none⟩ = some (.int .u8 (((l.drop k).getD j 0 : Nat) : Int))) := by
            intro j hj
            rw [HLD.out] at hj
            rw [(HB0.out.cell (p := ⟨g, off + k + j, none⟩) (S2.out (by omega)).2), Nat.add_assoc, S3.out (k + j) (by omega)]
            congr 3
            rw [List.getD_eq_getElem?_getD, List.getD_eq_getElem?_getD, List.getElem?_drop]
          go_wp2_with (refine wp_copy_top (o := ⟨some 39, _, _, _, _, _⟩) (by rfl) _ _ (by rfl) _ _ _ _ _ _ (by rfl) (by rfl) g (w.heap.size + 1) (off + k) (scale + 1) (l.drop k) P HP3.out (by have := HLD.out; omega) (by have := HLD.out; omega) (by have := HLD.out; omega) (by intro h0; refine ⟨?_, rfl⟩; rw [HLD.out]) HC.out HK0.out ?_)
          intro W3 K3 B3
          have B4 := Lib.hid (HB0.out.trans (B3.mono (Nat.le_succ _)))
          have R4 : Hid (W3.heap[w.heap.size]? = some (.cells #[.bool false, .string ⟨#[]⟩, .string ⟨#[]⟩] 27 (0, 0))) := (B3.block _ (Nat.lt_succ_self _)).trans HR0.out
          clear B3 HB0 HR0 HC HK0 hmk HP3 hc
          go_wp2
          go_loopw [42] (fun i wr => ∃ j : Nat, i = .int .i64 j ∧ j ≤ scale + 1 ∧ Blk wr (w.heap.size + 1) (nC (lets P j)) ∧ Below w.heap.size w wr ∧ wr.heap[w.heap.size]? = some (.cells #[.bool false, .string ⟨#[]⟩, .string ⟨#[]⟩] 27 (0, 0))) (fun i _ => scale + 1 - (intOf i).toNat)
          case atStart => exact ⟨0, rfl, by omega, K3.out, B4.out, R4.out⟩
          case round =>
            obtain ⟨j, rfl, hj, hB, hbw, hR⟩ := hrel
            have HB := Lib.hid hB
            have hf := hB.frozen j
            have HW := Lib.hid hbw
            have HR := Lib.hid hR
            clear hB hbw hR
            by_cases hlt : j < scale + 1
            · obtain ⟨g1, g2⟩ := lets_step P j (by rw [HP2.out]; exact hlt)
              have hd : P.getD j 0 < 10 := by
                have hj2 : j < P.length := by rw [HP2.out]; exact hlt
                rw [List.getD_eq_getElem?_getD, List.getElem?_eq_getElem hj2]
                exact HP1.out _ (List.getElem_mem _)
              have hc2 : wr.cell? ⟨w.heap.size + 1, j, none⟩ = some (.int .u8 (P.getD j 0 : Int)) := by
                rw [HB.out.cell, nC_get _ _ (by rw [lets_len, HP2.out]; exact hlt), g1]
              generalize P.getD j 0 = d2 at *
              have G2 := Lib.hid g2
              clear g1 g2
              go_wp2
              go_roundw
              case rel => exact ⟨j + 1, by go_num, by omega, by
                have := HB.out.set_ j (.int .u8 ((48 + d2 : Nat) : Int))
                rw [nC_set, G2.out] at this
                rw [show ((d2 : Int) + 48) = ((48 + d2 : Nat) : Int) by omega]
                exact this, HW.out.setCell (p := ⟨w.heap.size + 1, j, none⟩) (Nat.le_succ _) _, by
                rw [Below.heap_setCell _ _ _ _ (by show w.heap.size ≠ w.heap.size + 1; omega)]
                exact HR.out⟩
              case measure => simp [intOf]; omega
            · have HE := Lib.hid (lets_end P j (by rw [HP2.out]; exact hlt))
              have HBB : Hid (Blk wr (w.heap.size + 1) (Lib.byteCells (dB P))) := by
                rw [byte_cells_of P HP1.out, ← HE.out]
                exact HB.out
              have HLE : Hid ((dB P).length = scale + 1) := by show _ = _; rw [dB_len, HP2.out]
              clear HB HE hf
              obtain ⟨S1, hS1⟩ : ∃ S1, S1 = dStr (P.take (scale + 1 - scale)) := ⟨_, rfl⟩
              obtain ⟨S2, hS2⟩ : ∃ S2, S2 = dStr (P.drop (scale + 1 - scale)) := ⟨_, rfl⟩
              have HS1 := Lib.hid hS1
              have HS2 := Lib.hid hS2
              have r0 : wr.cell? ⟨w.heap.size, 0, none⟩ = some (.bool false) := by rw [cell_of_row wr w.heap.size 0 _ _ _ HR.out]; rfl
              have r1 : wr.cell? ⟨w.heap.size, 1, none⟩ = some (.string ⟨#[]⟩) := by rw [cell_of_row wr w.heap.size 1 _ _ _ HR.out]; rfl
              have r2 : wr.cell? ⟨w.heap.size, 2, none⟩ = some (.string ⟨#[]⟩) := by rw [cell_of_row wr w.heap.size 2 _ _ _ HR.out]; rfl
              have z0 : wr.frozen? ⟨w.heap.size, 0, none⟩ = false := by simp [World.frozen?, HR.out]
              have z1 : wr.frozen? ⟨w.heap.size, 1, none⟩ = false := by simp [World.frozen?, HR.out]
              have z2 : wr.frozen? ⟨w.heap.size, 2, none⟩ = false := by simp [World.frozen?, HR.out]
              have PL := Lib.hid HP2.out
              have HBl : Hid (∀ x : Value, Below w.heap.size w (((wr.setCell ⟨w.heap.size, 0, none⟩ x).setCell ⟨w.heap.size, 1, none⟩ (.string S1)).setCell ⟨w.heap.size, 2, none⟩ (.string S2))) := fun x => ((HW.out.setCell (p := ⟨w.heap.size, 0, none⟩) (Nat.le_refl _) x).setCell (p := ⟨w.heap.size, 1, none⟩) (Nat.le_refl _) (.string S1)).setCell (p := ⟨w.heap.size, 2, none⟩) (Nat.le_refl _) (.string S2)
              have e0 : ∀ x : Value, (wr.setCell ⟨w.heap.size, 0, none⟩ x).cell? ⟨w.heap.size, 0, none⟩ = some x := fun x => cell_set_same wr _ x _ r0
              have e1 : ∀ x y : Value, ((wr.setCell ⟨w.heap.size, 0, none⟩ x).setCell ⟨w.heap.size, 1, none⟩ y).cell? ⟨w.heap.size, 1, none⟩ = some y := fun x y => cell_set_same _ _ y _ (cell_set_far _ _ _ _ _ _ (by decide) r1)
              have e2 : ∀ x y z : Value, (((wr.setCell ⟨w.heap.size, 0, none⟩ x).setCell ⟨w.heap.size, 1, none⟩ y).setCell ⟨w.heap.size, 2, none⟩ z).cell? ⟨w.heap.size, 2, none⟩ = some z := fun x y z => cell_set_same _ _ z _ (cell_set_far _ _ _ _ _ _ (by decide) (cell_set_far _ _ _ _ _ _ (by decide) r2))
              by_cases hsc : scale = 0
              · omega
              · have kc1 := blk_string wr (w.heap.size + 1) P _ 0 (1) (scale + 1) S1 hS1 HBB.out (by rw [List.drop_zero]; congr 1; omega) (by rw [PL.out]; omega)
                have kc2 := blk_string wr (w.heap.size + 1) P _ (1) scale scale S2 hS2 HBB.out (by rw [List.take_of_length_le (by rw [List.length_drop, PL.out]; omega)]; congr 1; omega) (by rw [PL.out]; omega)
                clear hS1 hS2
                cases neg
                · go_wp2
                  go_region
                  go_wp2
                  exact bodyPost_ret (v := .tuple #[.agg #[.bool false, .string S1, .string S2], .int .i64 0]) (by simp [results, Tryd.results34, go_sem, e0, e1, e2]) rfl ⟨by rw [H5.out, HS1.out, HS2.out]; rfl, (HBl.out _).trans ⟨rfl, rfl, rfl, Nat.le_refl _, fun _ _ => rfl⟩⟩
                · go_wp2
                  go_region
                  go_wp2
                  exact bodyPost_ret (v := .tuple #[.agg #[.bool true, .string S1, .string S2], .int .i64 0]) (by simp [results, Tryd.results34, go_sem, e0, e1, e2]) rfl ⟨by rw [H5.out, HS1.out, HS2.out, decide_eq_true hm0]; rfl, (HBl.out _).trans ⟨rfl, rfl, rfl, Nat.le_refl _, fun _ _ => rfl⟩⟩
      · have q4 : decide ((m : Int) < (scale : Int) + 1) = false := decide_eq_false (by omega)
        have q6 : ((m : Int) - (scale : Int)).toNat = m - scale := by omega
        have q7 : (0 : Int) ≤ (m : Int) - (scale : Int) := by omega
        have q8 : (m : Int) - (scale : Int) ≤ (m : Int) := by omega
        have q9 : m - (m - scale) = scale := by omega
        obtain ⟨P, P1, P2, P3, P4, P5⟩ := PF (m) (by omega)
        have HP1 := Lib.hid P1
        have HP2 := Lib.hid P2
        have HLD : Hid ((l.drop k).length = m) := by show _ = _; rw [List.length_drop]; omega
        have HP3 : Hid (List.replicate (m - (l.drop k).length) 0 ++ l.drop k = P) := by rw [HLD.out]; exact P3
        clear P1 P2 P3 PF
        rw [HO.out] at P4 P5
        by_cases h40 : 40 < m
        · have q40 : decide ((40 : Int) < (m : Int)) = true := decide_eq_true (by omega)
          have H5 := Lib.hid (P4 h40)
          clear P4 P5
          go_wp2
          exact bodyPost_ret (v := .tuple #[.agg #[.bool false, .string ⟨#[]⟩, .string ⟨#[]⟩], .int .i64 3]) (by simp [results, Tryd.results34, go_sem]) rfl ⟨by rw [H5.out]; rfl, (Below.refl _ w).alloc (Nat.le_refl _) _⟩
        · have q40 : decide ((40 : Int) < (m : Int)) = false := decide_eq_false (by omega)
          have H5 := Lib.hid (P5 h40)
          clear P4 P5
          obtain ⟨Z, hZ⟩ : ∃ Z, Z = (nC (List.replicate (m) 0)).toArray := ⟨_, rfl⟩
          have hmk := fun w => make_bytes (m) (by omega) w Z hZ
          try rw [show (((m) : Nat) : Int) = (m : Int) by omega] at hmk
          have HZ2 := Lib.hid hZ
          clear hZ
          have K0 : Blk ((w.alloc (.cells #[.bool false, .string ⟨#[]⟩, .string ⟨#[]⟩] 27)).alloc (.cells Z 5)) (w.heap.size + 1) (nC (List.replicate (m) 0)) := by
            have := Blk.new (w.alloc (.cells #[.bool false, .string ⟨#[]⟩, .string ⟨#[]⟩] 27)) (nC (List.replicate (m) 0)) Z HZ2.out
            rw [show (w.alloc (.cells #[.bool false, .string ⟨#[]⟩, .string ⟨#[]⟩] 27)).heap.size = w.heap.size + 1 by simp] at this
            exact this
          have HK0 := Lib.hid K0
          clear K0
          have HB0 := Lib.hid (((Below.refl _ w).alloc (Nat.le_refl _) (.cells #[.bool false, .string ⟨#[]⟩, .string ⟨#[]⟩] 27)).alloc (by simp) (.cells Z 5))
          have HR0 : Hid (((w.alloc (.cells #[.bool false, .string ⟨#[]⟩, .string ⟨#[]⟩] 27)).alloc (.cells Z 5)).heap[w.heap.size]? = some (.cells #[.bool false, .string ⟨#[]⟩, .string ⟨#[]⟩] 27 (0, 0))) := by
            show _ = _
            rw [Below.heap_alloc _ _ _ (by simp)]
            exact heap_alloc_new w _
          have HC : Hid (∀ j, j < (l.drop k).length → ((w.alloc (.cells #[.bool false, .string ⟨#[]⟩, .string ⟨#[]⟩] 27)).alloc (.cells Z 5)).cell? ⟨g, off + k + j, none⟩ = some (.int .u8 (((l.drop k).getD j 0 : Nat) : Int))) := by
            intro j hj
            rw [HLD.out] at hj
            rw [(HB0.out.cell (p := ⟨g, off + k + j, none⟩) (S2.out (by omega)).2), Nat.add_assoc, S3.out (k + j) (by omega)]
            congr 3
            rw [List.getD_eq_getElem?_getD, List.getD_eq_getElem?_getD, List.getElem?_drop]
          go_wp2_with (refine wp_copy_top (o := ⟨some 39, _, _, _, _, _⟩) (by rfl) _ _ (by rfl) _ _ _ _ _ _ (by rfl) (by rfl) g (w.heap.size + 1) (off + k) (m) (l.drop k) P HP3.out (by have := HLD.out; omega) (by have := HLD.out; omega) (by have := HLD.out; omega) (by intro h0; refine ⟨?_, rfl⟩; rw [HLD.out, Nat.sub_self]) HC.out HK0.out ?_)
          intro W3 K3 B3
          have B4 := Lib.hid (HB0.out.trans (B3.mono (Nat.le_succ _)))
          have R4 : Hid (W3.heap[w.heap.size]? = some (.cells #[.bool false, .string ⟨#[]⟩, .string ⟨#[]⟩] 27 (0, 0))) := (B3.block _ (Nat.lt_succ_self _)).trans HR0.out
          clear B3 HB0 HR0 HC HK0 hmk HP3 hc
          go_wp2
          go_loopw [42] (fun i wr => ∃ j : Nat, i = .int .i64 j ∧ j ≤ m ∧ Blk wr (w.heap.size + 1) (nC (lets P j)) ∧ Below w.heap.size w wr ∧ wr.heap[w.heap.size]? = some (.cells #[.bool false, .string ⟨#[]⟩, .string ⟨#[]⟩] 27 (0, 0))) (fun i _ => m - (intOf i).toNat)
          case atStart => exact ⟨0, rfl, by omega, K3.out, B4.out, R4.out⟩
          case round =>
            obtain ⟨j, rfl, hj, hB, hbw, hR⟩ := hrel
            have HB := Lib.hid hB
            have hf := hB.frozen j
            have HW := Lib.hid hbw
            have HR := Lib.hid hR
            clear hB hbw hR
            by_cases hlt : j < m
            · obtain ⟨g1, g2⟩ := lets_step P j (by rw [HP2.out]; exact hlt)
              have hd : P.getD j 0 < 10 := by
                have hj2 : j < P.length := by rw [HP2.out]; exact hlt
                rw [List.getD_eq_getElem?_getD, List.getElem?_eq_getElem hj2]
                exact HP1.out _ (List.getElem_mem _)
              have hc2 : wr.cell? ⟨w.heap.size + 1, j, none⟩ = some (.int .u8 (P.getD j 0 : Int)) := by
                rw [HB.out.cell, nC_get _ _ (by rw [lets_len, HP2.out]; exact hlt), g1]
              generalize P.getD j 0 = d2 at *
              have G2 := Lib.hid g2
              clear g1 g2
              go_wp2
              go_roundw
              case rel => exact ⟨j + 1, by go_num, by omega, by
                have := HB.out.set_ j (.int .u8 ((48 + d2 : Nat) : Int))
                rw [nC_set, G2.out] at this
                rw [show ((d2 : Int) + 48) = ((48 + d2 : Nat) : Int) by omega]
                exact this, HW.out.setCell (p := ⟨w.heap.size + 1, j, none⟩) (Nat.le_succ _) _, by
                rw [Below.heap_setCell _ _ _ _ (by show w.heap.size ≠ w.heap.size + 1; omega)]
                exact HR.out⟩
              case measure => simp [intOf]; omega
            · have HE := Lib.hid (lets_end P j (by rw [HP2.out]; exact hlt))
              have HBB : Hid (Blk wr (w.heap.size + 1) (Lib.byteCells (dB P))) := by
                rw [byte_cells_of P HP1.out, ← HE.out]
                exact HB.out
              have HLE : Hid ((dB P).length = m) := by show _ = _; rw [dB_len, HP2.out]
              clear HB HE hf
              obtain ⟨S1, hS1⟩ : ∃ S1, S1 = dStr (P.take (m - scale)) := ⟨_, rfl⟩
              obtain ⟨S2, hS2⟩ : ∃ S2, S2 = dStr (P.drop (m - scale)) := ⟨_, rfl⟩
              have HS1 := Lib.hid hS1
              have HS2 := Lib.hid hS2
              have r0 : wr.cell? ⟨w.heap.size, 0, none⟩ = some (.bool false) := by rw [cell_of_row wr w.heap.size 0 _ _ _ HR.out]; rfl
              have r1 : wr.cell? ⟨w.heap.size, 1, none⟩ = some (.string ⟨#[]⟩) := by rw [cell_of_row wr w.heap.size 1 _ _ _ HR.out]; rfl
              have r2 : wr.cell? ⟨w.heap.size, 2, none⟩ = some (.string ⟨#[]⟩) := by rw [cell_of_row wr w.heap.size 2 _ _ _ HR.out]; rfl
              have z0 : wr.frozen? ⟨w.heap.size, 0, none⟩ = false := by simp [World.frozen?, HR.out]
              have z1 : wr.frozen? ⟨w.heap.size, 1, none⟩ = false := by simp [World.frozen?, HR.out]
              have z2 : wr.frozen? ⟨w.heap.size, 2, none⟩ = false := by simp [World.frozen?, HR.out]
              have PL := Lib.hid HP2.out
              have HBl : Hid (∀ x : Value, Below w.heap.size w (((wr.setCell ⟨w.heap.size, 0, none⟩ x).setCell ⟨w.heap.size, 1, none⟩ (.string S1)).setCell ⟨w.heap.size, 2, none⟩ (.string S2))) := fun x => ((HW.out.setCell (p := ⟨w.heap.size, 0, none⟩) (Nat.le_refl _) x).setCell (p := ⟨w.heap.size, 1, none⟩) (Nat.le_refl _) (.string S1)).setCell (p := ⟨w.heap.size, 2, none⟩) (Nat.le_refl _) (.string S2)
              have e0 : ∀ x : Value, (wr.setCell ⟨w.heap.size, 0, none⟩ x).cell? ⟨w.heap.size, 0, none⟩ = some x := fun x => cell_set_same wr _ x _ r0
              have e1 : ∀ x y : Value, ((wr.setCell ⟨w.heap.size, 0, none⟩ x).setCell ⟨w.heap.size, 1, none⟩ y).cell? ⟨w.heap.size, 1, none⟩ = some y := fun x y => cell_set_same _ _ y _ (cell_set_far _ _ _ _ _ _ (by decide) r1)
              have e2 : ∀ x y z : Value, (((wr.setCell ⟨w.heap.size, 0, none⟩ x).setCell ⟨w.heap.size, 1, none⟩ y).setCell ⟨w.heap.size, 2, none⟩ z).cell? ⟨w.heap.size, 2, none⟩ = some z := fun x y z => cell_set_same _ _ z _ (cell_set_far _ _ _ _ _ _ (by decide) (cell_set_far _ _ _ _ _ _ (by decide) r2))
              by_cases hsc : scale = 0
              · subst hsc
                have kc1 := blk_string wr (w.heap.size + 1) P _ 0 (m) (m) S1 hS1 HBB.out (by rw [List.drop_zero]; rfl) (by rw [PL.out]; omega)
                have kc2 := blk_string wr (w.heap.size + 1) P _ 0 0 0 S2 hS2 HBB.out (by rw [List.take_zero, List.drop_eq_nil_of_le (by rw [PL.out]; omega)]) (by omega)
                clear hS1 hS2
                cases neg
                · go_wp2
                  go_region
                  go_wp2
                  exact bodyPost_ret (v := .tuple #[.agg #[.bool false, .string S1, .string S2], .int .i64 0]) (by simp [results, Tryd.results34, go_sem, e0, e1, e2]) rfl ⟨by rw [H5.out, HS1.out, HS2.out]; rfl, (HBl.out _).trans ⟨rfl, rfl, rfl, Nat.le_refl _, fun _ _ => rfl⟩⟩
                · go_wp2
                  go_region
                  go_wp2
                  exact bodyPost_ret (v := .tuple #[.agg #[.bool true, .string S1, .string S2], .int .i64 0]) (by simp [results, Tryd.results34, go_sem, e0, e1, e2]) rfl ⟨by rw [H5.out, HS1.out, HS2.out, decide_eq_true hm0]; rfl, (HBl.out _).trans ⟨rfl, rfl, rfl, Nat.le_refl _, fun _ _ => rfl⟩⟩
              · have kc1 := blk_string wr (w.heap.size + 1) P _ 0 (m - scale) (m) S1 hS1 HBB.out (by rw [List.drop_zero]) (by rw [PL.out]; omega)
                have kc2 := blk_string wr (w.heap.size + 1) P _ (m - scale) scale scale S2 hS2 HBB.out (by rw [List.take_of_length_le (by rw [List.length_drop, PL.out]; omega)]) (by rw [PL.out]; omega)
                clear hS1 hS2
                cases neg
                · go_wp2
                  go_region
                  go_wp2
                  exact bodyPost_ret (v := .tuple #[.agg #[.bool false, .string S1, .string S2], .int .i64 0]) (by simp [results, Tryd.results34, go_sem, e0, e1, e2]) rfl ⟨by rw [H5.out, HS1.out, HS2.out]; rfl, (HBl.out _).trans ⟨rfl, rfl, rfl, Nat.le_refl _, fun _ _ => rfl⟩⟩
                · go_wp2
                  go_region
                  go_wp2
                  exact bodyPost_ret (v := .tuple #[.agg #[.bool true, .string S1, .string S2], .int .i64 0]) (by simp [results, Tryd.results34, go_sem, e0, e1, e2]) rfl ⟨by rw [H5.out, HS1.out, HS2.out, decide_eq_true hm0]; rfl, (HBl.out _).trans ⟨rfl, rfl, rfl, Nat.le_refl _, fun _ _ => rfl⟩⟩
end Go.Proofs.YtmggdnnffdaffaaDoor
