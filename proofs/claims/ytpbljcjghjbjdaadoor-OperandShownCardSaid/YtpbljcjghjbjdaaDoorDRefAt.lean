/- The reference's at and turned. -/
import Derived.Test.YtpbljcjghjbjdaaDoorDRef2
import Derived.Test.YtpbljcjghjbjdaaDoorRow
import Derived.IntWalk
namespace Go.Proofs.YtpbljcjghjbjdaaDoor
open Go.RowKit

theorem rAt_rev {l : List Nat} {i p : Nat} (h : p + 1 + i = l.length) : rAt l.reverse i = l.getD p 0 := by
  unfold rAt
  rw [List.getD_eq_getElem?_getD, List.getD_eq_getElem?_getD, List.getElem?_reverse (by omega)]
  congr 2
  omega
theorem rAt_off {l : List Nat} {i : Nat} (h : l.length ≤ i) : rAt l.reverse i = 0 := by
  unfold rAt
  rw [List.getD_eq_getElem?_getD, List.getElem?_eq_none (by simpa using h)]
  rfl

set_option maxHeartbeats 1000000 in
theorem refAt_any (l : List Nat) (i : Nat) (w : World) (hd : Digs l) (hl : l.length ≤ 1000000) (hi : i ≤ 1000000) :
    Calls Tryd.prog 193 #[.string (dStr l), .int .i64 (i : Int)] w fun r w' => r = .returned (.int .i64 ((rAt l.reverse i : Nat) : Int)) ∧ w = w' := by
  by_cases h : l.length ≤ i
  · have HR := Lib.hid (rAt_off h)
    have q : decide ((l.length : Int) ≤ (i : Int)) = true := decide_eq_true (by omega)
    obtain ⟨S, hS⟩ : ∃ S, S = dStr l := ⟨_, rfl⟩
    have hz : S.size = l.length := by rw [hS, dStr_size]
    rw [← hS]
    clear hS hd hl hi
    go_enter Tryd.func193, Tryd.ntmps193
    go_wp2
    go_ret
    exact ⟨by rw [HR.out]; rfl, rfl⟩
  · obtain ⟨p, hp⟩ : ∃ p, p + 1 + i = l.length := ⟨l.length - 1 - i, by omega⟩
    have HR := Lib.hid (rAt_rev hp)
    have hx := getD_digs hd p
    obtain ⟨S, hS⟩ : ∃ S, S = dStr l := ⟨_, rfl⟩
    have hz : S.size = l.length := by rw [hS, dStr_size]
    have hps : p < S.size := by omega
    have hget : (S[p]'hps).toNat = 48 + l.getD p 0 := by subst hS; exact dStr_get _ hd p hps
    rw [← hS]
    clear hS hd
    generalize l.getD p 0 = x at *
    obtain ⟨N, hN⟩ : ∃ N, N = l.length := ⟨_, rfl⟩
    rw [← hN] at hz hl hp h
    clear hN
    have e1 : IntKind.i64.wrap ((N : Int) - 1) = (N : Int) - 1 := IntWalk.i64_in _ (by omega)
    have e2 : IntKind.i64.wrap ((N : Int) - 1 - (i : Int)) = (p : Int) := by rw [IntWalk.i64_in _ (by omega)]; omega
    have q : decide ((N : Int) ≤ (i : Int)) = false := decide_eq_false (by omega)
    have w1 : IntKind.u8.wrap (((S[p]'hps).toNat : Int) - 48) = (x : Int) := by rw [hget, IntWalk.u8_in _ (by omega)]; omega
    have w2 : IntKind.i64.wrap (x : Int) = (x : Int) := IntWalk.i64_in _ (by omega)
    have HP := Lib.hid hp
    clear hget hp
    go_enter Tryd.func193, Tryd.ntmps193
    go_wp2
    go_ret
    exact ⟨ret_i (by rw [HR.out]), rfl⟩

/-- What a row of bytes holds, cell by cell. -/
theorem Row.open_ {B : Nat} {v : Value} {l : List UInt8} {w : World} (h : Row B v l w) (h1 : 1 ≤ l.length) :
    ∃ g cap, v = .slice (some ⟨g, 0, none⟩) l.length cap ∧ B ≤ g ∧ g < w.heap.size ∧ ∀ j b, l[j]? = some b → w.cell? ⟨g, j, none⟩ = some (.int .u8 (b.toNat : Int)) := by
  rcases h.2 with ⟨rfl, h0⟩ | ⟨g, cap, cur, rfl, hB, hg, hn, hm, hsz, htake⟩
  · omega
  · refine ⟨g, cap, rfl, hB, (Array.getElem?_eq_some_iff.1 hg).1, fun j b hj => ?_⟩
    rw [cell_of_row w g j _ _ _ hg, ← Array.getElem?_toList]
    have hjl := (List.getElem?_eq_some_iff.1 hj).1
    have e : cur.toList[j]? = (Lib.byteCells l)[j]? := by
      rw [← htake, List.getElem?_take, if_pos (by omega)]
    rw [e]
    unfold Lib.byteCells
    rw [List.getElem?_map, hj]
    simp
theorem dB_get {l : List Nat} (h : Digs l) {j : Nat} (hj : j < l.length) : ∃ b, (dB l)[j]? = some b ∧ b.toNat = 48 + l.getD j 0 := by
  unfold dB
  rw [List.getElem?_map, List.getElem?_eq_getElem hj, List.getD_eq_getElem?_getD, List.getElem?_eq_getElem hj]
  refine ⟨_, rfl, ?_⟩
  have := h _ (List.getElem_mem hj)
  simp
  omega

set_option maxHeartbeats 2000000 in
set_option maxRecDepth 100000 in
theorem refTurned_any (v : Value) (ds : List Nat) (B n : Nat) (w : World) (hR : Row B v (dB ds) w) (hd : Digs ds) (hn : ds.length = n) (h1 : 1 ≤ n) (h2 : n ≤ 1000000) :
    Calls Tryd.prog 194 #[v] w fun r w' => r = .returned (.string (dStr (digs (rVal ds)))) ∧ Below w.heap.size w w' := by
  obtain ⟨g, cap, hv, -, LG, hc⟩ := hR.open_ (by rw [dB_len]; omega)
  rw [dB_len, hn] at hv
  subst hv
  have HC : Hid (∀ j, j < n → w.cell? ⟨g, j, none⟩ = some (.int .u8 (((48 + ds.getD j 0 : Nat)) : Int))) := by
    intro j hj
    obtain ⟨b, e1, e2⟩ := dB_get hd (show j < ds.length by omega)
    rw [hc j b e1, e2]
  obtain ⟨Z, hZ⟩ : ∃ Z, Z = (nC (List.replicate n 0)).toArray := ⟨_, rfl⟩
  have hmk := fun w => make_bytes n h2 w Z hZ
  have K0 := Lib.hid (Blk.new w (nC (List.replicate n 0)) Z hZ)
  have B0 := Lib.hid ((Below.refl _ w).alloc (Nat.le_refl _) (.cells Z 5))
  have HD := Lib.hid hd
  have HN := Lib.hid hn
  have DL : Hid (∀ wx : World, Calls Tryd.prog 147 #[.string (dStr ds.reverse)] wx fun r w' => r = .returned (.string (dStr (digs (rVal ds)))) ∧ wx = w') := by
    intro wx
    have := refLead_any ds.reverse wx hd.reverse (by rw [List.length_reverse]; omega)
    rw [show dVal ds.reverse = rVal ds by unfold dVal; rw [List.reverse_reverse]] at this
    exact this
  clear hZ hR hc hd hn
  go_enter Tryd.func194, Tryd.ntmps194
  go_wp2
  go_loopw [4] (fun i wr => ∃ k : Nat, i = .int .i64 k ∧ k ≤ n ∧ Blk wr w.heap.size (nC (List.replicate (n - k) 0 ++ (ds.take k).reverse.map (48 + ·))) ∧ Below w.heap.size w wr) (fun i _ => n - (intOf i).toNat)
  case atStart => exact ⟨0, rfl, by omega, by simpa using K0.out, B0.out⟩
  case round =>
    obtain ⟨k, rfl, hk, hB, hbw⟩ := hrel
    have HB := Lib.hid hB
    have hf := fun i => hB.frozen i
    have HW := Lib.hid hbw
    clear hB hbw
    by_cases hlt : k < n
    · obtain ⟨p, hp⟩ : ∃ p, p + 1 + k = n := ⟨n - 1 - k, by omega⟩
      have e : List.replicate (n - k) 0 = List.replicate p 0 ++ [0] := by rw [← List.replicate_succ']; congr 1; omega
      have pos : p = (List.replicate p 0).length := by simp
      have c1 : wr.cell? ⟨g, k, none⟩ = some (.int .u8 (((48 + ds.getD k 0 : Nat)) : Int)) := by
        rw [HW.out.cell (p := ⟨g, k, none⟩) LG, HC.out k hlt]
      have c2 : wr.cell? ⟨w.heap.size, p, none⟩ = some (.int .u8 ((0 : Nat) : Int)) := by
        rw [HB.out.cell, e, List.append_assoc, nC_get _ _ (by simp), List.singleton_append, get_mid _ _ _ _ pos]
      have HT : Hid ((ds.take (k + 1)).reverse.map (48 + ·) = (48 + ds.getD k 0) :: (ds.take k).reverse.map (48 + ·)) := by
        show _ = _
        rw [take_at ds k (by rw [HN.out]; exact hlt)]
        simp
      have HE := Lib.hid e
      have HPOS := Lib.hid pos
      generalize 48 + ds.getD k 0 = y at *
      have e1 : IntKind.i64.wrap ((n : Int) - 1) = (n : Int) - 1 := IntWalk.i64_in _ (by omega)
      have e2 : IntKind.i64.wrap ((n : Int) - 1 - (k : Int)) = (p : Int) := by rw [IntWalk.i64_in _ (by omega)]; omega
      have i1 : (p : Int) < (n : Int) := by omega
      have HP := Lib.hid hp
      clear e pos hp
      go_wp2
      go_roundw
      case rel => exact ⟨k + 1, by go_num, by omega, by
        have := HB.out.set_ p (.int .u8 ((y : Nat) : Int))
        rw [nC_set, HE.out, List.append_assoc, List.singleton_append, set_mid _ _ _ _ _ HPOS.out] at this
        rw [HT.out, show n - (k + 1) = p by have := HP.out; omega]
        exact this, HW.out.setCell (p := ⟨w.heap.size, p, none⟩) (Nat.le_refl _) _⟩
      case measure => simp [intOf]; omega
    · obtain rfl : k = n := by omega
      have HBB : Hid (Blk wr w.heap.size (Lib.byteCells (dB ds.reverse))) := by
        show Blk _ _ _
        rw [byte_cells_of _ HD.out.reverse]
        have := HB.out
        rw [Nat.sub_self, List.replicate_zero, List.nil_append, List.take_of_length_le (Nat.le_of_eq HN.out)] at this
        exact this
      obtain ⟨S, hS⟩ : ∃ S, S = dStr ds.reverse := ⟨_, rfl⟩
      have kc := blk_stringQ wr w.heap.size ds.reverse ds.reverse 0 k k S hS HBB.out (by rw [List.drop_zero, List.take_of_length_le (by rw [List.length_reverse, HN.out]; exact Nat.le_refl _)]) (by rw [List.length_reverse, HN.out]; omega)
      rw [← hS] at DL
      have HS := Lib.hid hS
      clear hS
      go_wp2_with fail
      (with_reducible refine (DL.out _).mono ?_)
      rintro e w4 ⟨rfl, rfl⟩
      go_wp2
      go_ret
      exact ⟨rfl, HW.out⟩
end Go.Proofs.YtpbljcjghjbjdaaDoor
