/- Small pieces of the reference: If, First, Lead, Zeros, Num. -/
import Derived.Test.YtpbljcjghjbjdaaDoorDSum
namespace Go.Proofs.YtpbljcjghjbjdaaDoor
open Go.RowKit
attribute [local go_sem ↓] Go.wp_at_zero Go.wp_at_succ

theorem ret_i {a b : Int} (h : a = b) : Ending.returned (.int .i64 a) = .returned (.int .i64 b) := by rw [h]
theorem ret_s {a b : ByteArray} (h : a = b) : Ending.returned (.string a) = .returned (.string b) := by rw [h]
def ifE (b : Bool) (e : Int) : Int := if b then e else 0
def firstE (e1 e2 : Int) : Int := if e1 = 0 then e2 else e1
set_option maxRecDepth 100000 in
theorem refIf_any (b : Bool) (e : Int) (w : World) :
    Calls Tryd.prog 71 #[.bool b, .int .i64 e] w fun r w' => r = .returned (.int .i64 (ifE b e)) ∧ w = w' := by
  cases b
  all_goals
    go_enter Tryd.func71, Tryd.ntmps71
    go_wp2
    go_ret
    exact ⟨rfl, rfl⟩

set_option maxRecDepth 100000 in
theorem refFirst_two (e1 e2 : Int) (g : Nat) (t : TypeId) (fr : Nat × Nat) (w : World) (hg : w.heap[g]? = some (.cells #[.int .i64 e1, .int .i64 e2] t fr)) :
    Calls Tryd.prog 70 #[.slice (some ⟨g, 0, none⟩) 2 2] w fun r w' => r = .returned (.int .i64 (firstE e1 e2)) ∧ w = w' := by
  have c0 : w.cell? ⟨g, 0, none⟩ = some (.int .i64 e1) := by rw [cell_of_row w g 0 _ _ _ hg]; rfl
  have c1 : w.cell? ⟨g, 1, none⟩ = some (.int .i64 e2) := by rw [cell_of_row w g 1 _ _ _ hg]; rfl
  clear hg
  go_enter Tryd.func70, Tryd.ntmps70
  go_wp2
  go_loop [3] (fun i => ∃ k : Nat, i = .int .i64 k ∧ k ≤ 2 ∧ (0 < k → e1 = 0) ∧ (1 < k → e2 = 0)) (fun i => 2 - (intOf i).toNat)
  case atStart => exact ⟨0, rfl, by omega, fun h => by omega, fun h => by omega⟩
  case round =>
    obtain ⟨k, rfl, hk, h1, h2⟩ := hrel
    have H1 := Lib.hid h1
    have H2 := Lib.hid h2
    clear h1 h2
    rcases (by omega : k = 0 ∨ k = 1 ∨ k = 2) with rfl | rfl | rfl
    · by_cases e : e1 = 0
      · have q : (e1 != 0) = false := by simpa using e
        have HE := Lib.hid e
        clear e
        go_wp2
        go_round
        case rel => exact ⟨1, rfl, by omega, fun _ => HE.out, fun h => by omega⟩
        case measure => simp [intOf]
      · have q : (e1 != 0) = true := by simpa using e
        have HQ := Lib.hid (show firstE e1 e2 = e1 from if_neg e)
        clear e
        go_wp2
        go_ret
        exact ⟨ret_i HQ.out.symm, rfl⟩
    · have HQ := Lib.hid (show firstE e1 e2 = e2 from if_pos (H1.out (by omega)))
      by_cases e : e2 = 0
      · have q : (e2 != 0) = false := by simpa using e
        have HE := Lib.hid e
        clear e
        go_wp2
        go_round
        case rel => exact ⟨2, rfl, by omega, fun _ => H1.out (by omega), fun _ => HE.out⟩
        case measure => simp [intOf]
      · have q : (e2 != 0) = true := by simpa using e
        clear e
        go_wp2
        go_ret
        exact ⟨ret_i HQ.out.symm, rfl⟩
    · have HQ := Lib.hid (show firstE e1 e2 = 0 by rw [firstE, if_pos (H1.out (by omega)), H2.out (by omega)])
      go_wp2
      go_ret
      exact ⟨ret_i HQ.out.symm, rfl⟩

def sizeOfStr (v : Value) : Nat := match v with | .string s => s.size | _ => 0
set_option maxHeartbeats 1000000 in
set_option maxRecDepth 100000 in
theorem refLead_any (l : List Nat) (w : World) (hd : Digs l) (hl : l.length ≤ 1000000) :
    Calls Tryd.prog 147 #[.string (dStr l)] w fun r w' => r = .returned (.string (dStr (digs (dVal l)))) ∧ w = w' := by
  have HL := Lib.hid (dLead_digs l hd)
  have HDL := Lib.hid hd
  clear hd
  go_enter Tryd.func147, Tryd.ntmps147
  go_wp2
  go_loop [0] (fun v => ∃ m : List Nat, v = .string (dStr m) ∧ dLead m = dLead l ∧ Digs m ∧ m.length ≤ l.length) (fun v => sizeOfStr v)
  case atStart => exact ⟨l, rfl, rfl, HDL.out, Nat.le_refl _⟩
  case round =>
    obtain ⟨m, rfl, hm, hdm, hlm⟩ := hrel
    have HM := Lib.hid (hm.trans HL.out)
    have HM0 := Lib.hid hm
    have HD := Lib.hid hdm
    have HLM := Lib.hid hlm
    clear hm hdm hlm
    match m, HM, HM0, HD, HLM with
    | [], HM, HM0, HD, HLM =>
      obtain ⟨S, hS⟩ : ∃ S, S = dStr [] := ⟨_, rfl⟩
      have hz : S.size = 0 := by rw [hS]; rfl
      have n1 : S.toList = [] := toList_nil.2 hz
      have n2 : S.toList.isEmpty = true := by rw [n1]; rfl
      have HR := Lib.hid (show dStr [0] = dStr (digs (dVal l)) by rw [← HM.out]; rfl)
      rw [← hS]
      clear hS
      go_wp2
      go_ret
      exact ⟨ret_s HR.out, rfl⟩
    | [d], HM, HM0, HD, HLM =>
      obtain ⟨S, hS⟩ : ∃ S, S = dStr [d] := ⟨_, rfl⟩
      have hz : S.size = 1 := by rw [hS, dStr_size]; rfl
      have n1 : ¬ S.toList = [] := fun h => by have := toList_nil.1 h; omega
      have n2 : S.toList.isEmpty = false := by simpa using n1
      have HR := Lib.hid (show S = dStr (digs (dVal l)) by rw [hS, ← HM.out]; rfl)
      rw [← hS]
      clear hS
      go_wp2
      go_ret
      exact ⟨ret_s HR.out, rfl⟩
    | d :: e :: m, HM, HM0, HD, HLM =>
      obtain ⟨S, hS⟩ : ∃ S, S = dStr (d :: e :: m) := ⟨_, rfl⟩
      have hz : S.size = m.length + 2 := by rw [hS, dStr_size]; rfl
      have hks : 0 < S.size := by omega
      have hget : (S[0]'hks).toNat = 48 + d := by subst hS; exact dStr_get _ HD.out 0 hks
      have hlen : m.length ≤ 1000000 := by have := HLM.out; simp at this; omega
      by_cases h0 : d = 0
      · have q48 : (((S[0]'hks).toNat : Int) == 48) = true := by rw [hget, h0]; rfl
        have HEX := Lib.hid (show S.extract 1 S.size = dStr (e :: m) by rw [hS, dStr_size, dStr_ext, List.take_length]; rfl)
        have HZ := Lib.hid hz
        have H0 := Lib.hid h0
        rw [← hS]
        clear hget h0 hS
        go_wp2
        go_round
        case rel => exact ⟨e :: m, congrArg Value.string (by rw [← HZ.out]; exact HEX.out), by rw [← HM0.out]; exact (if_pos H0.out).symm, HD.out.tail, by have := HLM.out; simp at this ⊢; omega⟩
        case measure => simp [sizeOfStr, HZ.out]
      · have q48 : (((S[0]'hks).toNat : Int) == 48) = false := by rw [hget, beq_eq_false_iff_ne]; omega
        have n1 : ¬ S.toList = [] := fun h => by have := toList_nil.1 h; omega
        have n2 : S.toList.isEmpty = false := by simpa using n1
        have HR := Lib.hid (show S = dStr (digs (dVal l)) by rw [hS, ← HM.out]; exact congrArg dStr (if_neg h0).symm)
        rw [← hS]
        clear hget h0 hS
        go_wp2
        go_ret
        exact ⟨ret_s HR.out, rfl⟩

/-- A string made of a block's bytes, where nothing draws. -/
theorem blk_stringQ (w : World) (g : Nat) (P Q : List Nat) (off n cap : Nat) (S : ByteArray) (hS : S = dStr Q) (h : Blk w g (Lib.byteCells (dB P))) (hQ : (P.drop off).take n = Q) (hl : off + n ≤ P.length) :
    (convert 76 9 (.slice (some ⟨g, off, none⟩) n cap)).run Tryd.prog w = .ok (.string S) w := by
  have e : (((dB P).drop off).take n).length = n := by rw [List.length_take, List.length_drop, dB_len]; omega
  have := run_convert_bytes_back (P := Tryd.prog) w 76 9 5 ⟨g, off, none⟩ cap (((dB P).drop off).take n) Tryd.underlying76 Tryd.underlying5 Tryd.underlying9 (by
    intro j hj
    have hj' : j < n := by rw [e] at hj; exact hj
    have hadd : (⟨g, off, none⟩ : Addr).add j = ⟨g, off + j, none⟩ := by unfold Addr.add; split <;> simp_all
    rw [hadd, h.cell]
    have hjl : off + j < (dB P).length := by rw [dB_len]; omega
    unfold Lib.byteCells
    rw [List.getElem?_map, List.getElem?_eq_getElem hjl]
    simp)
  rw [e] at this
  rw [this, hS, ← hQ]
  unfold dStr dB
  simp [List.map_take, List.map_drop]

set_option maxHeartbeats 1000000 in
set_option maxRecDepth 100000 in
theorem refZeros_any (n : Nat) (nI : Int) (w : World) (hI : nI = (n : Int)) (hn : n ≤ 1000000) :
    Calls Tryd.prog 111 #[.int .i64 nI] w fun r w' => r = .returned (.string (dStr (List.replicate n 0))) ∧ Below w.heap.size w w' := by
  subst hI
  obtain ⟨Z, hZ⟩ : ∃ Z, Z = (nC (List.replicate n 0)).toArray := ⟨_, rfl⟩
  have hmk := fun w => make_bytes n hn w Z hZ
  have K0 := Lib.hid (Blk.new w (nC (List.replicate n 0)) Z hZ)
  have B0 := Lib.hid ((Below.refl _ w).alloc (Nat.le_refl _) (.cells Z 5))
  clear hZ
  go_enter Tryd.func111, Tryd.ntmps111
  go_wp2
  go_loopw [4] (fun i wr => ∃ k : Nat, i = .int .i64 k ∧ k ≤ n ∧ Blk wr w.heap.size (nC (List.replicate k 48 ++ List.replicate (n - k) 0)) ∧ Below w.heap.size w wr) (fun i _ => n - (intOf i).toNat)
  case atStart => exact ⟨0, rfl, by omega, K0.out, B0.out⟩
  case round =>
    obtain ⟨k, rfl, hk, hB, hbw⟩ := hrel
    have HB := Lib.hid hB
    have hf := hB.frozen k
    have HW := Lib.hid hbw
    clear hB hbw
    by_cases hlt : k < n
    · have e : List.replicate (n - k) 0 = 0 :: List.replicate (n - k - 1) 0 := by rw [← List.replicate_succ]; congr 1; omega
      have c2 : wr.cell? ⟨w.heap.size, k, none⟩ = some (.int .u8 ((0 : Nat) : Int)) := by
        rw [HB.out.cell, nC_get _ _ (by simp; omega), e, get_mid _ _ _ _ (by simp)]
      have HE := Lib.hid e
      clear e
      go_wp2
      go_roundw
      case rel => exact ⟨k + 1, by go_num, by omega, by
        have := HB.out.set_ k (.int .u8 ((48 : Nat) : Int))
        rw [nC_set, HE.out, set_mid _ _ _ _ _ (by simp)] at this
        rw [List.replicate_succ', List.append_assoc, List.singleton_append]
        exact this, HW.out.setCell (p := ⟨w.heap.size, k, none⟩) (Nat.le_refl _) _⟩
      case measure => simp [intOf]; omega
    · obtain rfl : k = n := by omega
      have HBB : Hid (Blk wr w.heap.size (Lib.byteCells (dB (List.replicate k 0)))) := by
        show Blk _ _ _
        rw [byte_cells_of _ (.zeros _), List.map_replicate]
        have := HB.out
        rw [Nat.sub_self, List.replicate_zero, List.append_nil] at this
        exact this
      obtain ⟨S, hS⟩ : ∃ S, S = dStr (List.replicate k 0) := ⟨_, rfl⟩
      have kc := blk_stringQ wr w.heap.size (List.replicate k 0) (List.replicate k 0) 0 k k S hS HBB.out (by rw [List.drop_zero, List.take_of_length_le (by simp)]) (by simp)
      have HS := Lib.hid hS
      clear hS
      go_wp2
      go_ret
      exact ⟨ret_s HS.out, HW.out⟩
end Go.Proofs.YtpbljcjghjbjdaaDoor
