/- Fill of both sides tells fillR, the plain function below. -/
import Derived.Test.YtgakophdgjepmaaDoorLeaf
import Derived.Test.YtgakophdgjepmaaDoorBuild
import Derived.Lib.Hide
namespace Go.Proofs.YtgakophdgjepmaaDoor
open Go.RowKit

/-- A value reads as a list of strings, in blocks below B. -/
def Strs (B : Nat) (w : World) (v : Value) (ss : List ByteArray) : Prop :=
  ∃ a cap, v = .slice a ss.length cap ∧ ss.length ≤ maxLen ∧ ∀ j, j < ss.length → ∃ b off, a = some ⟨b, off, none⟩ ∧ b < B ∧ w.cell? ⟨b, off + j, none⟩ = some (.string (ss.getD j ByteArray.empty))

theorem Strs.below {B C : Nat} {w w' : World} {v : Value} {ss : List ByteArray} (h : Strs B w v ss) (hb : Below C w w') (hBC : B ≤ C) : Strs B w' v ss := by
  obtain ⟨a, cap, hv, hm, hc⟩ := h
  refine ⟨a, cap, hv, hm, fun j hj => ?_⟩
  obtain ⟨b, off, ha, hb1, hc1⟩ := hc j hj
  exact ⟨b, off, ha, hb1, (hb.cell (p := ⟨b, off + j, none⟩) (by show b < C; omega)).trans hc1⟩

/-- The item of the placeholder at a place. -/
def itemN (p : ByteArray) (ss : List ByteArray) (k : Nat) : Option ByteArray :=
  if k + 2 < p.size ∧ 48 ≤ byteN p (k + 1) ∧ byteN p (k + 1) ≤ 57 ∧ byteN p (k + 2) = 125 then ss[byteN p (k + 1) - 48]? else none

def fillFrom (p : ByteArray) (ss : List ByteArray) (k : Nat) (acc : List UInt8) : List UInt8 × Int :=
  if k < p.size then
    if byteN p k = 123 then
      match itemN p ss k with
      | none => ([], 11)
      | some x => if 1048576 < acc.length + x.size then ([], 2) else fillFrom p ss (k + 3) (acc ++ x.data.toList)
    else if 1048576 < acc.length + 1 then ([], 2) else fillFrom p ss (k + 1) (acc ++ [p.get! k])
  else (acc, 0)
termination_by p.size - k

def fillR (p : ByteArray) (ss : List ByteArray) : List UInt8 × Int := if 65536 < p.size then ([], 2) else fillFrom p ss 0 []

theorem fill_end {p : ByteArray} {ss : List ByteArray} {k : Nat} {acc : List UInt8} (h : ¬ k < p.size) : fillFrom p ss k acc = (acc, 0) := by rw [fillFrom, if_neg h]
theorem fill_none {p : ByteArray} {ss : List ByteArray} {k : Nat} {acc : List UInt8} (h : k < p.size) (hb : byteN p k = 123) (hi : itemN p ss k = none) : fillFrom p ss k acc = ([], 11) := by rw [fillFrom, if_pos h, if_pos hb, hi]
theorem fill_long {p x : ByteArray} {ss : List ByteArray} {k : Nat} {acc : List UInt8} (h : k < p.size) (hb : byteN p k = 123) (hi : itemN p ss k = some x) (hl : 1048576 < acc.length + x.size) : fillFrom p ss k acc = ([], 2) := by rw [fillFrom, if_pos h, if_pos hb, hi]; exact if_pos hl
theorem fill_item {p x : ByteArray} {ss : List ByteArray} {k : Nat} {acc : List UInt8} (h : k < p.size) (hb : byteN p k = 123) (hi : itemN p ss k = some x) (hl : ¬ 1048576 < acc.length + x.size) : fillFrom p ss k acc = fillFrom p ss (k + 3) (acc ++ x.data.toList) := by rw [fillFrom, if_pos h, if_pos hb, hi]; exact if_neg hl
theorem fill_over {p : ByteArray} {ss : List ByteArray} {k : Nat} {acc : List UInt8} (h : k < p.size) (hb : byteN p k ≠ 123) (hl : 1048576 < acc.length + 1) : fillFrom p ss k acc = ([], 2) := by rw [fillFrom, if_pos h, if_neg hb, if_pos hl]
theorem fill_byte {p : ByteArray} {ss : List ByteArray} {k : Nat} {acc : List UInt8} (h : k < p.size) (hb : byteN p k ≠ 123) (hl : ¬ 1048576 < acc.length + 1) : fillFrom p ss k acc = fillFrom p ss (k + 1) (acc ++ [p.get! k]) := by rw [fillFrom, if_pos h, if_neg hb, if_neg hl]

theorem byteN_extract (p : ByteArray) (k j : Nat) (h : k + j < p.size) : byteN (p.extract k p.size) j = byteN p (k + j) := by
  have hs : (p.extract k p.size).size = p.size - k := by simp
  rw [← byteN_at _ j (by omega), ← byteN_at p (k + j) h]
  simp [ByteArray.getElem_extract]
theorem itemN_extract (p : ByteArray) (ss : List ByteArray) (k : Nat) (h : k < p.size) : itemN (p.extract k p.size) ss 0 = itemN p ss k := by
  unfold itemN
  have hs : (p.extract k p.size).size = p.size - k := by simp
  rw [hs]
  by_cases c : k + 2 < p.size
  · have c' : 2 < p.size - k := by omega
    rw [byteN_extract p k (0 + 1) (by omega), byteN_extract p k (0 + 2) (by omega)]
    simp [c, c']
  · rw [if_neg (by omega), if_neg (by omega)]

set_option maxRecDepth 100000 in
theorem itemOf_short (t : ByteArray) (iv : Value) (w : World) (h : t.size < 3) :
    Calls Tryd.prog 49 #[.string t, iv] w fun e w' => e = .returned (.tuple #[.string ⟨#[]⟩, .bool false]) ∧ w = w' := by
  go_enter Tryd.func49, Tryd.ntmps49
  go_wp2
  go_ret2
  exact ⟨rfl, rfl⟩
set_option maxRecDepth 100000 in
theorem itemOf_dig (t : ByteArray) (iv : Value) (w : World) (h : 2 < t.size) (hs : t.size ≤ maxLen) (hd : digB (t[1].toNat : Int) = false) :
    Calls Tryd.prog 49 #[.string t, iv] w fun e w' => e = .returned (.tuple #[.string ⟨#[]⟩, .bool false]) ∧ w = w' := by
  unfold maxLen at hs
  go_enter Tryd.func49, Tryd.ntmps49
  go_wp2_with (go_at_call 54; refine (isDigit_any _ _).mono ?_; rintro e w' ⟨rfl, rfl⟩)
  go_ret2
  exact ⟨rfl, rfl⟩
set_option maxRecDepth 100000 in
theorem itemOf_brace (t : ByteArray) (iv : Value) (w : World) (h : 2 < t.size) (hs : t.size ≤ maxLen) (hd : digB (t[1].toNat : Int) = true) (hb : ((t[2].toNat : Int) != 125) = true) :
    Calls Tryd.prog 49 #[.string t, iv] w fun e w' => e = .returned (.tuple #[.string ⟨#[]⟩, .bool false]) ∧ w = w' := by
  unfold maxLen at hs
  go_enter Tryd.func49, Tryd.ntmps49
  go_wp2_with (go_at_call 54; refine (isDigit_any _ _).mono ?_; rintro e w' ⟨rfl, rfl⟩)
  go_ret2
  exact ⟨rfl, rfl⟩
set_option maxRecDepth 100000 in
theorem itemOf_far (t : ByteArray) (a : Option Addr) (n cap : Nat) (w : World) (h : 2 < t.size) (hs : t.size ≤ maxLen) (hd : digB (t[1].toNat : Int) = true) (h48 : 48 ≤ t[1].toNat) (h57 : t[1].toNat ≤ 57) (hb : ((t[2].toNat : Int) != 125) = false) (hn : n ≤ t[1].toNat - 48) :
    Calls Tryd.prog 49 #[.string t, .slice a n cap] w fun e w' => e = .returned (.tuple #[.string ⟨#[]⟩, .bool false]) ∧ w = w' := by
  unfold maxLen at hs
  go_enter Tryd.func49, Tryd.ntmps49
  go_wp2_with (go_at_call 54; refine (isDigit_any _ _).mono ?_; rintro e w' ⟨rfl, rfl⟩)
  go_ret2
  exact ⟨rfl, rfl⟩
set_option maxRecDepth 100000 in
theorem itemOf_ok (t x : ByteArray) (b off n cap : Nat) (w : World) (h : 2 < t.size) (hs : t.size ≤ maxLen) (hd : digB (t[1].toNat : Int) = true) (h48 : 48 ≤ t[1].toNat) (h57 : t[1].toNat ≤ 57) (hb : ((t[2].toNat : Int) != 125) = false) (hn : t[1].toNat - 48 < n)
    (hc : w.cell? ⟨b, off + (t[1].toNat - 48), none⟩ = some (.string x)) :
    Calls Tryd.prog 49 #[.string t, .slice (some ⟨b, off, none⟩) n cap] w fun e w' => e = .returned (.tuple #[.string x, .bool true]) ∧ w = w' := by
  unfold maxLen at hs
  go_enter Tryd.func49, Tryd.ntmps49
  go_wp2_with (go_at_call 54; refine (isDigit_any _ _).mono ?_; rintro e w' ⟨rfl, rfl⟩)
  go_ret2
  exact ⟨rfl, rfl⟩
/-- What itemOf tells. -/
def itemEnd (o : Option ByteArray) : Ending := match o with
  | some x => .returned (.tuple #[.string x, .bool true])
  | none => .returned (.tuple #[.string ⟨#[]⟩, .bool false])

theorem itemOf_any (t : ByteArray) (ss : List ByteArray) (iv : Value) (B : Nat) (w : World) (hs : t.size ≤ maxLen) (h : Strs B w iv ss) :
    Calls Tryd.prog 49 #[.string t, iv] w fun e w' => e = itemEnd (itemN t ss 0) ∧ w = w' := by
  obtain ⟨a, cap, rfl, hm, hc⟩ := h
  by_cases h3 : t.size < 3
  · refine (itemOf_short t _ w h3).mono ?_
    rintro e w' ⟨rfl, rfl⟩
    exact ⟨by rw [show itemN t ss 0 = none from if_neg (by omega)]; rfl, rfl⟩
  have b1 := byteN_at t 1 (by omega)
  have b2 := byteN_at t 2 (by omega)
  by_cases hd : 48 ≤ byteN t 1 ∧ byteN t 1 ≤ 57
  · have hd' : digB (t[1].toNat : Int) = true := decide_eq_true (by omega)
    by_cases hb : byteN t 2 = 125
    · have hb' : ((t[2].toNat : Int) != 125) = false := by simp; omega
      have hi : itemN t ss 0 = ss[byteN t 1 - 48]? := if_pos (by simp only [Nat.zero_add]; omega)
      by_cases hn : byteN t 1 - 48 < ss.length
      · obtain ⟨b, off, rfl, hB, hcell⟩ := hc _ hn
        refine (itemOf_ok t (ss.getD (byteN t 1 - 48) ByteArray.empty) b off ss.length cap w (by omega) hs hd' (by omega) (by omega) hb' (by omega) (by rw [b1]; exact hcell)).mono ?_
        rintro e w' ⟨rfl, rfl⟩
        refine ⟨?_, rfl⟩
        rw [hi, List.getD_eq_getElem?_getD, List.getElem?_eq_getElem hn]
        rfl
      · refine (itemOf_far t a ss.length cap w (by omega) hs hd' (by omega) (by omega) hb' (by omega)).mono ?_
        rintro e w' ⟨rfl, rfl⟩
        exact ⟨by rw [hi, List.getElem?_eq_none (by omega)]; rfl, rfl⟩
    · refine (itemOf_brace t _ w (by omega) hs hd' (by simp; omega)).mono ?_
      rintro e w' ⟨rfl, rfl⟩
      exact ⟨by rw [show itemN t ss 0 = none from if_neg (by simp only [Nat.zero_add]; omega)]; rfl, rfl⟩
  · refine (itemOf_dig t _ w (by omega) hs (decide_eq_false (by omega))).mono ?_
    rintro e w' ⟨rfl, rfl⟩
    exact ⟨by rw [show itemN t ss 0 = none from if_neg (by simp only [Nat.zero_add]; omega)]; rfl, rfl⟩

/-- What Fill tells. -/
def fillEnd (r : List UInt8 × Int) : Ending := .returned (.tuple #[.string ⟨r.1.toArray⟩, .int .i64 r.2])

theorem itemOf_none_at (p : ByteArray) (ss : List ByteArray) (iv : Value) (k B : Nat) (w : World) (hs : p.size ≤ maxLen) (hk : k < p.size) (h : Strs B w iv ss) (hi : itemN p ss k = none) :
    Calls Tryd.prog 49 #[.string (p.extract k p.size), iv] w fun e w' => e = .returned (.tuple #[.string ⟨#[]⟩, .bool false]) ∧ w = w' := by
  refine (itemOf_any (p.extract k p.size) ss iv B w (by simp; omega) h).mono ?_
  rintro e w' ⟨rfl, rfl⟩
  exact ⟨by rw [itemN_extract p ss k hk, hi]; rfl, rfl⟩
theorem itemOf_some_at (p x : ByteArray) (ss : List ByteArray) (iv : Value) (k B : Nat) (w : World) (hs : p.size ≤ maxLen) (hk : k < p.size) (h : Strs B w iv ss) (hi : itemN p ss k = some x) :
    Calls Tryd.prog 49 #[.string (p.extract k p.size), iv] w fun e w' => e = .returned (.tuple #[.string x, .bool true]) ∧ w = w' := by
  refine (itemOf_any (p.extract k p.size) ss iv B w (by simp; omega) h).mono ?_
  rintro e w' ⟨rfl, rfl⟩
  exact ⟨by rw [itemN_extract p ss k hk, hi]; rfl, rfl⟩
theorem itemN_lt {p x : ByteArray} {ss : List ByteArray} {k : Nat} (h : itemN p ss k = some x) : k + 2 < p.size := by
  unfold itemN at h
  by_cases c : k + 2 < p.size
  · exact c
  · rw [if_neg (by omega)] at h; cases h
theorem fillEnd_of {p : ByteArray} {ss : List ByteArray} {k : Nat} {acc a : List UInt8} {n : Int} (HR : fillR p ss = fillFrom p ss 0 []) (HE : fillFrom p ss k acc = fillFrom p ss 0 []) (h : fillFrom p ss k acc = (a, n)) :
    Ending.returned (.tuple #[.string ⟨a.toArray⟩, .int .i64 n]) = fillEnd (fillR p ss) := by rw [HR, ← HE, h]; rfl

theorem extract_one (p : ByteArray) (k : Nat) (h : k < p.size) : (p.extract k (k + 1)).data.toList = [p.get! k] := by
  have e : p.get! k = p[k]'h := get_at p k h
  have hl : k < p.data.toList.length := by simpa using h
  rw [e, Lib.extract_data]
  rw [List.drop_eq_getElem_cons hl, Nat.add_sub_cancel_left]
  rfl
theorem cells_one {T e B b : Nat} {q : Value} {bs : List Value} {w : World} {p : ByteArray} {k : Nat} (h : k < p.size) (H : Lib.BuilderAtF T e B b q (bs ++ Lib.strCells (p.extract k (k + 1))) w) : Lib.BuilderAtF T e B b q (bs ++ Lib.byteCells [p.get! k]) w := by
  rw [Lib.strCells_eq, extract_one p k h] at H
  exact H

set_option maxHeartbeats 4000000 in
set_option maxRecDepth 100000 in
theorem fill_any (p : ByteArray) (ss : List ByteArray) (iv : Value) (w : World) (hs : p.size ≤ maxLen) (h : Strs w.heap.size w iv ss) :
    Calls Tryd.prog 29 #[.string p, iv] w fun e w' => e = fillEnd (fillR p ss) ∧ Below w.heap.size w w' := by
  by_cases hl : 65536 < p.size
  · unfold maxLen at hs
    go_enter Tryd.func29, Tryd.ntmps29
    go_wp2
    go_ret2
    exact ⟨by rw [show fillR p ss = ([], 2) from if_pos hl]; rfl, Below.refl _ _⟩
  · have HR : Hid (fillR p ss = fillFrom p ss 0 []) := if_neg hl
    have q : decide ((65536 : Int) < (p.size : Int)) = false := decide_eq_false (by omega)
    have HS := Lib.hid h
    have HM := Lib.hid hs
    clear h hs
    go_enter Tryd.func29, Tryd.ntmps29
    go_wp2
    go_loopw [7] (fun i wr => ∃ (k : Nat) (acc : List UInt8), i = .int .i64 k ∧ k ≤ p.size ∧ acc.length ≤ 1048576 ∧ Lib.IsBuilderF 40 5 w.heap.size w.heap.size (Lib.byteCells acc) wr ∧ Below w.heap.size w wr ∧ w.heap.size < wr.heap.size ∧ fillFrom p ss k acc = fillFrom p ss 0 []) (fun i _ => p.size - (intOf i).toNat)
    case atStart => exact ⟨0, [], rfl, by omega, by simp, Lib.IsBuilderF.of (Lib.fresh_isBuilder _ _ w), (Below.refl _ w).alloc (Nat.le_refl _) _, by simp, rfl⟩
    case round =>
      obtain ⟨k, acc, rfl, hk, hal, hI, hbw, hsz, hE⟩ := hrel
      have HE := Lib.hid hE
      have HST := Lib.hid (HS.out.below hbw (Nat.le_refl _))
      have hbl : (Lib.byteCells acc).length ≤ 1048576 := by rw [Lib.byteCells_length]; exact hal
      have HBL : Hid ((Lib.byteCells acc).length = acc.length) := Lib.byteCells_length acc
      clear hE
      by_cases hlt : k < p.size
      · have HK : Hid (p[k].toNat = byteN p k) := byteN_at p k hlt
        by_cases hb : byteN p k = 123
        · have hc : ((p[k].toNat : Int) == 123) = true := by rw [HK.out, hb]; rfl
          have HB := Lib.hid hb
          clear hb
          cases hi : itemN p ss k with
          | none =>
            have HI := Lib.hid hi
            clear hi
            go_wp2_with (first | (go_at_call 49; refine (itemOf_none_at p ss iv k w.heap.size _ HM.out hlt HST.out HI.out).mono ?_; rintro e w' ⟨rfl, rfl⟩))
            go_ret2
            exact ⟨fillEnd_of HR.out HE.out (fill_none hlt HB.out HI.out), hbw⟩
          | some x =>
            have HI := Lib.hid hi
            have hk3 := itemN_lt hi
            clear hi
            by_cases hx : 1048576 < (Lib.byteCells acc).length + x.size
            · go_wp2_with (first | (go_at_call 49; refine (itemOf_some_at p x ss iv k w.heap.size _ HM.out hlt HST.out HI.out).mono ?_; rintro e w' ⟨rfl, rfl⟩) | (go_at_call 50; refine (Tryd.Builder_Len_f w.heap.size w.heap.size _ _ hI).mono ?_; rintro e w' ⟨rfl, rfl⟩))
              go_ret2
              exact ⟨fillEnd_of HR.out HE.out (fill_long hlt HB.out HI.out (by rw [← HBL.out]; exact hx)), hbw⟩
            · go_wp2_with (first | (go_at_call 49; refine (itemOf_some_at p x ss iv k w.heap.size _ HM.out hlt HST.out HI.out).mono ?_; rintro e w' ⟨rfl, rfl⟩) | (go_at_call 50; refine (Tryd.Builder_Len_f w.heap.size w.heap.size _ _ hI).mono ?_; rintro e w' ⟨rfl, rfl⟩) | (go_at_call 44; refine (writeString_any w.heap.size w.heap.size _ x _ hI (by omega) (by omega)).mono ?_))
              rintro e W1 ⟨rfl, h1, b1, k1⟩
              have hs1 := b1.size
              go_wp2
              go_roundw
              case rel => exact ⟨k + 3, acc ++ x.data.toList, by go_num, by omega, by rw [List.length_append, ← HBL.out]; simp; omega, by rw [Lib.byteCells_append]; exact Or.inr h1, hbw.trans b1, by omega, by rw [← HE.out]; exact (fill_item hlt HB.out HI.out (by rw [← HBL.out]; exact hx)).symm⟩
              case measure => simp [intOf]; omega
        · have hc : ((p[k].toNat : Int) == 123) = false := by rw [HK.out]; simp; omega
          have HB := Lib.hid hb
          clear hb
          have hx1 : (p.extract k (k + 1)).size = 1 := by simp; omega
          by_cases hx : 1048576 < (Lib.byteCells acc).length + 1
          · go_wp2_with (first | (go_at_call 50; refine (Tryd.Builder_Len_f w.heap.size w.heap.size _ _ hI).mono ?_; rintro e w' ⟨rfl, rfl⟩))
            go_ret2
            exact ⟨fillEnd_of HR.out HE.out (fill_over hlt HB.out (by rw [← HBL.out]; exact hx)), hbw⟩
          · go_wp2_with (first | (go_at_call 50; refine (Tryd.Builder_Len_f w.heap.size w.heap.size _ _ hI).mono ?_; rintro e w' ⟨rfl, rfl⟩) | (go_at_call 44; refine (writeString_any w.heap.size w.heap.size _ (p.extract k (k + 1)) _ hI (by omega) (by omega)).mono ?_))
            rintro e W1 ⟨rfl, h1, b1, k1⟩
            have hs1 := b1.size
            go_wp2
            go_roundw
            case rel => exact ⟨k + 1, acc ++ [p.get! k], by go_num, by omega, by rw [List.length_append, ← HBL.out]; simp; omega, by rw [Lib.byteCells_append]; exact Or.inr (cells_one hlt h1), hbw.trans b1, by omega, by rw [← HE.out]; exact (fill_byte hlt HB.out (by rw [← HBL.out]; exact hx)).symm⟩
            case measure => simp [intOf]; omega
      · go_wp2_with (first | (go_at_call 34; refine (Tryd.Builder_String_any_k w.heap.size w.heap.size acc _ hI (by omega)).mono ?_))
        rintro e W1 ⟨rfl, _, b1, _⟩
        go_wp2
        go_ret2
        exact ⟨fillEnd_of HR.out HE.out (fill_end hlt), hbw.trans b1⟩
end Go.Proofs.YtgakophdgjepmaaDoor
