/- The program's Unescape tells unescR. -/
import Derived.Test.YtgakophdgjepmaaDoorUnhex
import Derived.Test.YtgakophdgjepmaaDoorBuild
import Derived.Test.YtgakophdgjepmaaDoorNum
namespace Go.Proofs.YtgakophdgjepmaaDoor
open Go.RowKit

def seqEnd (o : Option (List UInt8 × Nat)) : Ending := match o with
  | some (l, n) => .returned (.tuple #[.string ⟨l.toArray⟩, .int .i64 n])
  | none => .returned (.tuple #[.string ⟨#[]⟩, .int .i64 0])

theorem readHex_some (t : ByteArray) (d n : Nat) (w : World) (hs : t.size ≤ maxLen) (hd0 : 0 < d) (hd : d ≤ 6) (h : hexN t 0 d = some n) :
    Calls Tryd.prog 64 #[.string t, .int .i64 d] w fun e w' => e = .returned (.tuple #[.int .i32 n, .bool true]) ∧ w = w' := by
  refine (readHex_any t d w hs hd0 hd).mono ?_
  rintro e w' ⟨rfl, rfl⟩
  exact ⟨by rw [h]; rfl, rfl⟩
theorem readHex_none (t : ByteArray) (d : Nat) (w : World) (hs : t.size ≤ maxLen) (hd0 : 0 < d) (hd : d ≤ 6) (h : hexN t 0 d = none) :
    Calls Tryd.prog 64 #[.string t, .int .i64 d] w fun e w' => e = .returned (.tuple #[.int .i32 0, .bool false]) ∧ w = w' := by
  refine (readHex_any t d w hs hd0 hd).mono ?_
  rintro e w' ⟨rfl, rfl⟩
  exact ⟨by rw [h]; rfl, rfl⟩
theorem readHex_none2 (t : ByteArray) (w : World) (hs : t.size ≤ maxLen) (h : hexN t 0 2 = none) :
    Calls Tryd.prog 64 #[.string t, .int .i64 2] w fun e w' => e = .returned (.tuple #[.int .i32 0, .bool false]) ∧ w = w' := readHex_none t 2 w hs (by omega) (by omega) h
theorem readHex_some2 (t : ByteArray) (n : Nat) (w : World) (hs : t.size ≤ maxLen) (h : hexN t 0 2 = some n) :
    Calls Tryd.prog 64 #[.string t, .int .i64 2] w fun e w' => e = .returned (.tuple #[.int .i32 n, .bool true]) ∧ w = w' := readHex_some t 2 n w hs (by omega) (by omega) h

/-- What the two readers tell of a text that begins with digits. -/
def byteOf (t : ByteArray) : Option (List UInt8 × Nat) := match hexN t 0 2 with
  | some n => some ([n.toUInt8], 3)
  | none => none
def runeOf (t : ByteArray) (d : Nat) : Option (List UInt8 × Nat) := match hexN t 0 d with
  | some n => if n < 55296 ∨ (57343 < n ∧ n ≤ 1114111) then some (Lib.encodeRune n, d + 1) else none
  | none => none

theorem byteOf_some {t : ByteArray} {n : Nat} (h : hexN t 0 2 = some n) : byteOf t = some ([n.toUInt8], 3) := by unfold byteOf; rw [h]
theorem runeOf_some {t : ByteArray} {n d : Nat} (h : hexN t 0 d = some n) (hr : n < 55296 ∨ (57343 < n ∧ n ≤ 1114111)) : runeOf t d = some (Lib.encodeRune n, d + 1) := by unfold runeOf; rw [h]; exact if_pos hr
theorem runeOf_not {t : ByteArray} {n d : Nat} (h : hexN t 0 d = some n) (hr : ¬ (n < 55296 ∨ (57343 < n ∧ n ≤ 1114111))) : runeOf t d = none := by unfold runeOf; rw [h]; exact if_neg hr
theorem seq_ret {o : Option (List UInt8 × Nat)} {l : List UInt8} {n : Nat} {m : Int} {b : ByteArray} (h : o = some (l, n)) (hm : m = n) (hb : b = ⟨l.toArray⟩) : Ending.returned (.tuple #[.string b, .int .i64 m]) = seqEnd o := by rw [h, hm, hb]; rfl

set_option maxRecDepth 100000 in
theorem readByte_any (t : ByteArray) (w : World) (hs : t.size ≤ maxLen) :
    Calls Tryd.prog 57 #[.string t] w fun e w' => e = seqEnd (byteOf t) ∧ Below w.heap.size w w' := by
  cases h : hexN t 0 2 with
  | none =>
    have H := Lib.hid h
    clear h
    go_enter Tryd.func57, Tryd.ntmps57
    go_wp2_with (go_at_call 64; refine (readHex_none2 t _ hs H.out).mono ?_; rintro e w' ⟨rfl, rfl⟩)
    go_ret2
    exact ⟨by unfold byteOf; rw [H.out]; rfl, Below.refl _ _⟩
  | some n =>
    have H := Lib.hid h
    have hn : n < 256 := hexN_lt h
    clear h
    obtain ⟨b, hb⟩ : ∃ b : UInt8, b = n.toUInt8 := ⟨_, rfl⟩
    have HB := Lib.hid hb
    have hbn : (b.toNat : Int) = (n : Int) := by rw [hb]; simp; omega
    clear hb
    have kc := fun (wx : World) => new_string wx [b] #[.int .u8 (n : Int)] 1 (cells_of hbn) rfl (by decide)
    clear hbn
    go_enter Tryd.func57, Tryd.ntmps57
    go_wp2_with (go_at_call 64; refine (readHex_some2 t n _ hs H.out).mono ?_; rintro e w' ⟨rfl, rfl⟩)
    go_ret2
    exact ⟨seq_ret (byteOf_some H.out) rfl (by rw [HB.out]), (Below.refl _ _).alloc (Nat.le_refl _) _⟩

theorem validRune_dec (n : Nat) : Lib.validRune (n : Int) = decide (n < 55296 ∨ (57343 < n ∧ n ≤ 1114111)) := by
  unfold Lib.validRune
  rw [Bool.eq_iff_iff, decide_eq_true_eq, decide_eq_true_eq]
  omega
set_option maxRecDepth 100000 in
theorem readRune_any (t : ByteArray) (d : Nat) (w : World) (hs : t.size ≤ maxLen) (hd0 : 0 < d) (hd : d ≤ 6) :
    Calls Tryd.prog 58 #[.string t, .int .i64 d] w fun e w' => e = seqEnd (runeOf t d) ∧ w = w' := by
  cases h : hexN t 0 d with
  | none =>
    have H := Lib.hid h
    clear h
    go_enter Tryd.func58, Tryd.ntmps58
    go_wp2_with (go_at_call 64; refine (readHex_none t d _ hs hd0 hd H.out).mono ?_; rintro e w' ⟨rfl, rfl⟩)
    go_ret2
    exact ⟨by unfold runeOf; rw [H.out]; rfl, rfl⟩
  | some n =>
    have H := Lib.hid h
    clear h
    by_cases hr : n < 55296 ∨ (57343 < n ∧ n ≤ 1114111)
    · have HV : Lib.validRune (n : Int) = true := by rw [validRune_dec, decide_eq_true hr]
      have HE := encode_rune n hr
      have HR := Lib.hid hr
      clear hr
      go_enter Tryd.func58, Tryd.ntmps58
      go_wp2_with (first | (go_at_call 64; refine (readHex_some t d n _ hs hd0 hd H.out).mono ?_; rintro e w' ⟨rfl, rfl⟩) | (go_at_call 65; refine (Tryd.utf8_ValidRune _ _).mono ?_; rintro e w' ⟨rfl, rfl⟩))
      go_ret2
      exact ⟨seq_ret (runeOf_some H.out HR.out) (by omega) rfl, rfl⟩
    · have HV : Lib.validRune (n : Int) = false := by rw [validRune_dec, decide_eq_false hr]
      have HR := Lib.hid hr
      clear hr
      go_enter Tryd.func58, Tryd.ntmps58
      go_wp2_with (first | (go_at_call 64; refine (readHex_some t d n _ hs hd0 hd H.out).mono ?_; rintro e w' ⟨rfl, rfl⟩) | (go_at_call 65; refine (Tryd.utf8_ValidRune _ _).mono ?_; rintro e w' ⟨rfl, rfl⟩))
      go_ret2
      exact ⟨by rw [runeOf_not H.out HR.out]; rfl, rfl⟩
theorem readRune4 (t : ByteArray) (w : World) (hs : t.size ≤ maxLen) : Calls Tryd.prog 58 #[.string t, .int .i64 4] w fun e w' => e = seqEnd (runeOf t 4) ∧ w = w' := readRune_any t 4 w hs (by omega) (by omega)
theorem readRune6 (t : ByteArray) (w : World) (hs : t.size ≤ maxLen) : Calls Tryd.prog 58 #[.string t, .int .i64 6] w fun e w' => e = seqEnd (runeOf t 6) ∧ w = w' := readRune_any t 6 w hs (by omega) (by omega)

theorem byteOf_ext (t : ByteArray) (h : 1 ≤ t.size) : byteOf (t.extract 1 t.size) = byteAt t 0 := by
  unfold byteOf byteAt
  rw [hexN_ext t 1 0 h]
  rfl
theorem runeOf_ext (t : ByteArray) (d : Nat) (h : 1 ≤ t.size) : runeOf (t.extract 1 t.size) d = runeAt t 0 d := by
  unfold runeOf runeAt
  rw [hexN_ext t 1 0 h]
  rfl

set_option maxHeartbeats 1000000 in
set_option maxRecDepth 100000 in
theorem readSeq_any (t : ByteArray) (w : World) (hs : t.size ≤ maxLen) :
    Calls Tryd.prog 47 #[.string t] w fun e w' => e = seqEnd (seqAt t 0) ∧ Below w.heap.size w w' := by
  have HM := Lib.hid hs
  unfold maxLen at hs
  by_cases h0 : t.size = 0
  · have h1 : t.toList = [] := toList_nil.2 h0
    have H : Hid (seqAt t 0 = none) := by unfold seqAt; rw [byteN_out t 0 (by omega)]; exact rfl
    clear h0
    go_enter Tryd.func47, Tryd.ntmps47
    go_wp2
    all_goals (go_ret2; exact ⟨by rw [H.out]; rfl, Below.refl _ _⟩)
  have n1 : ¬ t.toList = [] := fun h => h0 (toList_nil.1 h)
  have n2 : t.toList.isEmpty = false := by simpa using n1
  have hp : 0 < t.size := by omega
  have HX := Lib.hid (show (t.extract 1 t.size).size ≤ maxLen by simp; unfold maxLen; omega)
  clear h0
  have HB := Lib.hid (byteN_at t 0 hp)
  by_cases ea : t[0].toNat = 92
  · have qa : ((t[0].toNat : Int) == 92) = true := by simp; omega
    have H : Hid (seqAt t 0 = some ([92], 1)) := by rw [HB.out] at ea; unfold seqAt; rw [if_pos ea]; exact rfl
    clear ea
    go_enter Tryd.func47, Tryd.ntmps47
    go_wp2
    go_ret2
    exact ⟨seq_ret H.out rfl rfl, Below.refl _ _⟩
  have qa : ((t[0].toNat : Int) == 92) = false := by simp; omega
  have Na : Hid (¬ byteN t 0 = 92) := by rw [← HB.out]; exact ea
  clear ea
  by_cases eb : t[0].toNat = 110
  · have qb : ((t[0].toNat : Int) == 110) = true := by simp; omega
    have H : Hid (seqAt t 0 = some ([10], 1)) := by rw [HB.out] at eb; unfold seqAt; rw [if_neg Na.out, if_pos eb]; exact rfl
    clear eb
    go_enter Tryd.func47, Tryd.ntmps47
    go_wp2
    go_ret2
    exact ⟨seq_ret H.out rfl rfl, Below.refl _ _⟩
  have qb : ((t[0].toNat : Int) == 110) = false := by simp; omega
  have Nb : Hid (¬ byteN t 0 = 110) := by rw [← HB.out]; exact eb
  clear eb
  by_cases ec : t[0].toNat = 114
  · have qc : ((t[0].toNat : Int) == 114) = true := by simp; omega
    have H : Hid (seqAt t 0 = some ([13], 1)) := by rw [HB.out] at ec; unfold seqAt; rw [if_neg Na.out, if_neg Nb.out, if_pos ec]; exact rfl
    clear ec
    go_enter Tryd.func47, Tryd.ntmps47
    go_wp2
    go_ret2
    exact ⟨seq_ret H.out rfl rfl, Below.refl _ _⟩
  have qc : ((t[0].toNat : Int) == 114) = false := by simp; omega
  have Nc : Hid (¬ byteN t 0 = 114) := by rw [← HB.out]; exact ec
  clear ec
  by_cases ed : t[0].toNat = 116
  · have qd : ((t[0].toNat : Int) == 116) = true := by simp; omega
    have H : Hid (seqAt t 0 = some ([9], 1)) := by rw [HB.out] at ed; unfold seqAt; rw [if_neg Na.out, if_neg Nb.out, if_neg Nc.out, if_pos ed]; exact rfl
    clear ed
    go_enter Tryd.func47, Tryd.ntmps47
    go_wp2
    go_ret2
    exact ⟨seq_ret H.out rfl rfl, Below.refl _ _⟩
  have qd : ((t[0].toNat : Int) == 116) = false := by simp; omega
  have Nd : Hid (¬ byteN t 0 = 116) := by rw [← HB.out]; exact ed
  clear ed
  by_cases ee : t[0].toNat = 120
  · have qe : ((t[0].toNat : Int) == 120) = true := by simp; omega
    have H : Hid (seqAt t 0 = byteAt t 0) := by rw [HB.out] at ee; unfold seqAt; rw [if_neg Na.out, if_neg Nb.out, if_neg Nc.out, if_neg Nd.out, if_pos ee]; exact rfl
    have HX2 := Lib.hid (byteOf_ext t (by omega))
    clear ee
    go_enter Tryd.func47, Tryd.ntmps47
    go_wp2_with (go_at_call 57; refine (readByte_any _ _ HX.out).mono ?_)
    rintro e w' ⟨rfl, hb⟩
    cases ho : byteOf (t.extract 1 t.size) with
    | none =>
      unfold seqEnd
      go_wp2
      go_ret2
      exact ⟨by rw [H.out, ← HX2.out, ho]; rfl, hb⟩
    | some x =>
      obtain ⟨l, n⟩ := x
      unfold seqEnd
      go_wp2
      go_ret2
      exact ⟨by rw [H.out, ← HX2.out, ho]; rfl, hb⟩
  have qe : ((t[0].toNat : Int) == 120) = false := by simp; omega
  have Ne : Hid (¬ byteN t 0 = 120) := by rw [← HB.out]; exact ee
  clear ee
  by_cases ef : t[0].toNat = 117
  · have qf : ((t[0].toNat : Int) == 117) = true := by simp; omega
    have H : Hid (seqAt t 0 = runeAt t 0 4) := by rw [HB.out] at ef; unfold seqAt; rw [if_neg Na.out, if_neg Nb.out, if_neg Nc.out, if_neg Nd.out, if_neg Ne.out, if_pos ef]; exact rfl
    have HX2 := Lib.hid (runeOf_ext t 4 (by omega))
    clear ef
    go_enter Tryd.func47, Tryd.ntmps47
    go_wp2_with (go_at_call 58; refine (readRune4 _ _ HX.out).mono ?_)
    rintro e w' ⟨rfl, rfl⟩
    cases ho : runeOf (t.extract 1 t.size) 4 with
    | none =>
      unfold seqEnd
      go_wp2
      go_ret2
      exact ⟨by rw [H.out, ← HX2.out, ho]; rfl, Below.refl _ _⟩
    | some x =>
      obtain ⟨l, n⟩ := x
      unfold seqEnd
      go_wp2
      go_ret2
      exact ⟨by rw [H.out, ← HX2.out, ho]; rfl, Below.refl _ _⟩
  have qf : ((t[0].toNat : Int) == 117) = false := by simp; omega
  have Nf : Hid (¬ byteN t 0 = 117) := by rw [← HB.out]; exact ef
  clear ef
  by_cases eg : t[0].toNat = 85
  · have qg : ((t[0].toNat : Int) == 85) = true := by simp; omega
    have H : Hid (seqAt t 0 = runeAt t 0 6) := by rw [HB.out] at eg; unfold seqAt; rw [if_neg Na.out, if_neg Nb.out, if_neg Nc.out, if_neg Nd.out, if_neg Ne.out, if_neg Nf.out, if_pos eg]; exact rfl
    have HX2 := Lib.hid (runeOf_ext t 6 (by omega))
    clear eg
    go_enter Tryd.func47, Tryd.ntmps47
    go_wp2_with (go_at_call 58; refine (readRune6 _ _ HX.out).mono ?_)
    rintro e w' ⟨rfl, rfl⟩
    cases ho : runeOf (t.extract 1 t.size) 6 with
    | none =>
      unfold seqEnd
      go_wp2
      go_ret2
      exact ⟨by rw [H.out, ← HX2.out, ho]; rfl, Below.refl _ _⟩
    | some x =>
      obtain ⟨l, n⟩ := x
      unfold seqEnd
      go_wp2
      go_ret2
      exact ⟨by rw [H.out, ← HX2.out, ho]; rfl, Below.refl _ _⟩
  have qg : ((t[0].toNat : Int) == 85) = false := by simp; omega
  have Ng : Hid (¬ byteN t 0 = 85) := by rw [← HB.out]; exact eg
  clear eg
  have H : Hid (seqAt t 0 = none) := by unfold seqAt; rw [if_neg Na.out, if_neg Nb.out, if_neg Nc.out, if_neg Nd.out, if_neg Ne.out, if_neg Nf.out, if_neg Ng.out]; exact rfl
  go_enter Tryd.func47, Tryd.ntmps47
  go_wp2
  go_ret2
  exact ⟨by rw [H.out]; rfl, Below.refl _ _⟩

def unEnd (r : List UInt8 × Int × Int) : Ending := .returned (.tuple #[.string ⟨r.1.toArray⟩, .int .i64 r.2.1, .int .i64 r.2.2])
theorem unEnd_of {s : ByteArray} {k : Nat} {acc a : List UInt8} {n m : Int} (HR : unescR s = unescFrom s 0 []) (HE : unescFrom s k acc = unescFrom s 0 []) (h : unescFrom s k acc = (a, n, m)) :
    Ending.returned (.tuple #[.string ⟨a.toArray⟩, .int .i64 n, .int .i64 m]) = unEnd (unescR s) := by rw [HR, ← HE, h]; rfl
theorem readSeq_none (s : ByteArray) (k : Nat) (w : World) (hs : s.size ≤ maxLen) (hk : k < s.size) (h : seqAt s (k + 1) = none) :
    Calls Tryd.prog 47 #[.string (s.extract (k + 1) s.size)] w fun e w' => e = .returned (.tuple #[.string ⟨#[]⟩, .int .i64 0]) ∧ Below w.heap.size w w' := by
  refine (readSeq_any (s.extract (k + 1) s.size) w (by simp; omega)).mono ?_
  rintro e w' ⟨rfl, hb⟩
  exact ⟨by rw [seqAt_ext s (k + 1) (by omega), h]; rfl, hb⟩
theorem readSeq_some (s : ByteArray) (k n : Nat) (l : List UInt8) (w : World) (hs : s.size ≤ maxLen) (hk : k < s.size) (h : seqAt s (k + 1) = some (l, n)) :
    Calls Tryd.prog 47 #[.string (s.extract (k + 1) s.size)] w fun e w' => e = .returned (.tuple #[.string ⟨l.toArray⟩, .int .i64 n]) ∧ Below w.heap.size w w' := by
  refine (readSeq_any (s.extract (k + 1) s.size) w (by simp; omega)).mono ?_
  rintro e w' ⟨rfl, hb⟩
  exact ⟨by rw [seqAt_ext s (k + 1) (by omega), h]; rfl, hb⟩

/-- A builder is kept by what lays new blocks alone. -/
theorem builder_later {B b : Nat} {bs : List Value} {w w' : World} (h : Lib.IsBuilderF 40 5 B b bs w) (hb : Below w.heap.size w w') : Lib.IsBuilderF 40 5 B b bs w' := by
  have one : ∀ p, Lib.BuilderAtF 40 5 B b p bs w → Lib.BuilderAtF 40 5 B b p bs w' := by
    rintro p ⟨hB, v, hv, hown, hne⟩
    refine ⟨hB, v, (hb.block b (Array.getElem?_eq_some_iff.1 hv).1).trans hv, ⟨hown.1, ?_⟩, hne⟩
    rcases hown.2 with hn | ⟨g, cap, cur, fz, hv2, hbg, hg, rest⟩
    · exact .inl hn
    · exact .inr ⟨g, cap, cur, fz, hv2, hbg, (hb.block g (Array.getElem?_eq_some_iff.1 hg).1).trans hg, rest⟩
  rcases h with h | h
  · exact .inl (one _ h)
  · exact .inr (one _ h)

theorem cells_get {T e B b : Nat} {q : Value} {bs : List Value} {w : World} {s : ByteArray} {k : Nat} (h : k < s.size) (H : Lib.BuilderAtF T e B b q (bs ++ [.int .u8 (s[k].toNat : Int)]) w) : Lib.BuilderAtF T e B b q (bs ++ Lib.byteCells [s.get! k]) w := by
  rw [show s.get! k = s[k]'h from get_at s k h]
  exact H

set_option maxHeartbeats 4000000 in
set_option maxRecDepth 100000 in
theorem unescape_any (s : ByteArray) (w : World) (hs : s.size ≤ maxLen) :
    Calls Tryd.prog 27 #[.string s] w fun e w' => e = unEnd (unescR s) ∧ Below w.heap.size w w' := by
  have HM := Lib.hid hs
  by_cases hl : 1048576 < s.size
  · have H : Hid (unescR s = ([], 0, 2)) := if_pos hl
    go_enter Tryd.func27, Tryd.ntmps27
    go_wp2
    go_ret3
    exact ⟨by rw [H.out]; rfl, Below.refl _ _⟩
  have HR : Hid (unescR s = unescFrom s 0 []) := if_neg hl
  have q : decide ((1048576 : Int) < (s.size : Int)) = false := decide_eq_false (by omega)
  clear hs
  go_enter Tryd.func27, Tryd.ntmps27
  go_wp2
  go_loopw [6] (fun i wr => ∃ (k : Nat) (acc : List UInt8), i = .int .i64 k ∧ k ≤ s.size ∧ acc.length ≤ k ∧ Lib.IsBuilderF 40 5 w.heap.size w.heap.size (Lib.byteCells acc) wr ∧ Below w.heap.size w wr ∧ w.heap.size < wr.heap.size ∧ unescFrom s k acc = unescFrom s 0 []) (fun i _ => s.size - (intOf i).toNat)
  case atStart => exact ⟨0, [], rfl, by omega, by simp, Lib.IsBuilderF.of (Lib.fresh_isBuilder _ _ w), (Below.refl _ w).alloc (Nat.le_refl _) _, by simp, rfl⟩
  case round =>
    obtain ⟨k, acc, rfl, hk, hal, hI, hbw, hsz, hE⟩ := hrel
    have HE := Lib.hid hE
    have hbl : (Lib.byteCells acc).length ≤ 1048576 := by rw [Lib.byteCells_length]; omega
    clear hE
    by_cases hlt : k < s.size
    · have HK := Lib.hid (byteN_at s k hlt)
      by_cases hb : byteN s k = 92
      · have hc : ((s[k].toNat : Int) != 92) = false := by rw [HK.out, hb]; rfl
        have HB := Lib.hid hb
        clear hb
        cases hq : seqAt s (k + 1) with
        | none =>
          have HQ := Lib.hid hq
          clear hq
          go_wp2_with (go_at_call 47; refine (readSeq_none s k _ HM.out hlt HQ.out).mono ?_)
          rintro e W1 ⟨rfl, b1⟩
          go_wp2
          go_ret3
          exact ⟨unEnd_of HR.out HE.out (un_bad hlt HB.out HQ.out), hbw.trans (b1.mono (by omega))⟩
        | some x =>
          obtain ⟨l, n⟩ := x
          have HQ := Lib.hid hq
          have hn := seqAt_le hq
          clear hq
          have hn0 : ((n : Int) == 0) = false := by simp; omega
          have hls : (ByteArray.mk l.toArray).size ≤ n := by show l.toArray.size ≤ n; simp; omega
          go_wp2_with (go_at_call 47; refine (readSeq_some s k n l _ HM.out hlt HQ.out).mono ?_)
          rintro e W1 ⟨rfl, b1⟩
          have hs1 := b1.size
          have HI1 := Lib.hid (builder_later hI b1)
          have hls2 : (Lib.byteCells acc).length + (ByteArray.mk l.toArray).size ≤ 140737488355328 := by omega
          go_wp2_with (go_at_call 44; refine (writeString_any w.heap.size w.heap.size _ ⟨l.toArray⟩ _ HI1.out hls2 (by omega)).mono ?_)
          rintro e W2 ⟨rfl, h2, b2, k2⟩
          have hs2 := b2.size
          go_wp2
          go_roundw
          case rel => exact ⟨k + 1 + n, acc ++ l, by go_num, by omega, by rw [List.length_append]; omega, by rw [Lib.byteCells_append]; exact Or.inr h2, (hbw.trans (b1.mono (by omega))).trans b2, by omega, by rw [← HE.out]; exact (un_seq hlt HB.out HQ.out).symm⟩
          case measure => simp [intOf]; omega
      · have hc : ((s[k].toNat : Int) != 92) = true := by rw [HK.out]; simp; omega
        have HB := Lib.hid hb
        clear hb
        go_wp2_with (go_at_call 46; refine (writeByte_any w.heap.size w.heap.size _ _ _ hI (by omega) (by omega)).mono ?_)
        rintro e W1 ⟨rfl, h1, b1, k1⟩
        have hs1 := b1.size
        go_wp2
        go_roundw
        case rel => exact ⟨k + 1, acc ++ [s.get! k], by go_num, by omega, by rw [List.length_append]; simp; omega, by rw [Lib.byteCells_append]; exact Or.inr (cells_get hlt h1), hbw.trans b1, by omega, by rw [← HE.out]; exact (un_byte hlt HB.out).symm⟩
        case measure => simp [intOf]; omega
    · go_wp2_with (go_at_call 34; refine (Tryd.Builder_String_any_k w.heap.size w.heap.size acc _ hI (by omega)).mono ?_)
      rintro e W1 ⟨rfl, _, b1, _⟩
      go_wp2
      go_ret3
      exact ⟨unEnd_of HR.out HE.out (un_end hlt), hbw.trans b1⟩
end Go.Proofs.YtgakophdgjepmaaDoor
