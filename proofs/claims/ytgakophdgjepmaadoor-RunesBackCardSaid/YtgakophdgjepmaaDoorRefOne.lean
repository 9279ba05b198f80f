/- The reference's reading of one escape. -/
import Derived.Test.YtgakophdgjepmaaDoorRefUnhex
import Derived.Test.YtgakophdgjepmaaDoorUnesc
import Derived.Test.YtgakophdgjepmaaDoorRefEsc
namespace Go.Proofs.YtgakophdgjepmaaDoor
open Go.RowKit

theorem u8n (x : Nat) (h : x < 256) : ((x.toUInt8).toNat : Int) = (x : Int) := by simp; omega
theorem cells2 {a b : Nat} {A B : Int} (ha : (a : Int) = A) (hb : (b : Int) = B) (a2 : a < 256) (b2 : b < 256) : #[Value.int .u8 A, .int .u8 B] = (Lib.byteCells [a.toUInt8, b.toUInt8]).toArray := by
  rw [← ha, ← hb, ← u8n a a2, ← u8n b b2]; rfl
theorem cells3 {a b c : Nat} {A B C : Int} (ha : (a : Int) = A) (hb : (b : Int) = B) (hc : (c : Int) = C) (a2 : a < 256) (b2 : b < 256) (c2 : c < 256) : #[Value.int .u8 A, .int .u8 B, .int .u8 C] = (Lib.byteCells [a.toUInt8, b.toUInt8, c.toUInt8]).toArray := by
  rw [← ha, ← hb, ← hc, ← u8n a a2, ← u8n b b2, ← u8n c c2]; rfl
theorem cells4 {a b c d : Nat} {A B C D : Int} (ha : (a : Int) = A) (hb : (b : Int) = B) (hc : (c : Int) = C) (hd : (d : Int) = D) (a2 : a < 256) (b2 : b < 256) (c2 : c < 256) (d2 : d < 256) : #[Value.int .u8 A, .int .u8 B, .int .u8 C, .int .u8 D] = (Lib.byteCells [a.toUInt8, b.toUInt8, c.toUInt8, d.toUInt8]).toArray := by
  rw [← ha, ← hb, ← hc, ← hd, ← u8n a a2, ← u8n b b2, ← u8n c c2, ← u8n d d2]; rfl
theorem put_one {n : Nat} (h : n < 128) : Lib.encodeRune (n : Int) = [n.toUInt8] := by
  unfold Lib.encodeRune
  rw [Lib.encodeRuneZ_one (by omega) (by omega)]
  rfl
theorem put_two {n : Nat} (h1 : 128 ≤ n) (h2 : n < 2048) : Lib.encodeRune (n : Int) = [(192 + n / 64).toUInt8, (128 + n % 64).toUInt8] := by
  unfold Lib.encodeRune
  rw [Lib.encodeRuneZ_two (by omega) (by omega)]
  simp only [List.map_cons, List.map_nil]
  rw [show ((192 : Int) + (n : Int) / 64).toNat = 192 + n / 64 by omega, show ((128 : Int) + (n : Int) % 64).toNat = 128 + n % 64 by omega]
theorem put_three {n : Nat} (h1 : 2048 ≤ n) (h2 : n < 65536) (h : n < 55296 ∨ (57343 < n ∧ n ≤ 1114111)) : Lib.encodeRune (n : Int) = [(224 + n / 4096).toUInt8, (128 + n / 64 % 64).toUInt8, (128 + n % 64).toUInt8] := by
  unfold Lib.encodeRune
  rw [Lib.encodeRuneZ_three (by omega)]
  simp only [List.map_cons, List.map_nil]
  rw [show ((224 : Int) + (n : Int) / 4096).toNat = 224 + n / 4096 by omega, show ((128 : Int) + (n : Int) / 64 % 64).toNat = 128 + n / 64 % 64 by omega, show ((128 : Int) + (n : Int) % 64).toNat = 128 + n % 64 by omega]
theorem put_four {n : Nat} (h1 : 65536 ≤ n) (h2 : n ≤ 1114111) : Lib.encodeRune (n : Int) = [(240 + n / 262144).toUInt8, (128 + n / 4096 % 64).toUInt8, (128 + n / 64 % 64).toUInt8, (128 + n % 64).toUInt8] := by
  unfold Lib.encodeRune
  rw [Lib.encodeRuneZ_four (by omega) (by omega)]
  simp only [List.map_cons, List.map_nil]
  rw [show ((240 : Int) + (n : Int) / 262144).toNat = 240 + n / 262144 by omega, show ((128 : Int) + (n : Int) / 4096 % 64).toNat = 128 + n / 4096 % 64 by omega, show ((128 : Int) + (n : Int) / 64 % 64).toNat = 128 + n / 64 % 64 by omega, show ((128 : Int) + (n : Int) % 64).toNat = 128 + n % 64 by omega]
theorem ret_text {l m : List UInt8} (h : l = m) : Ending.returned (.string ⟨l.toArray⟩) = .returned (.string ⟨m.toArray⟩) := by rw [h]

set_option maxHeartbeats 1000000 in
set_option maxRecDepth 100000 in
theorem put_any (n : Nat) (w : World) (h : n < 55296 ∨ (57343 < n ∧ n ≤ 1114111)) :
    Calls Tryd.prog 60 #[.int .i64 n] w fun e w' => e = .returned (.string ⟨(Lib.encodeRune n).toArray⟩) ∧ Below w.heap.size w w' := by
  obtain ⟨l, hl⟩ : ∃ l, l = Lib.encodeRune (n : Int) := ⟨_, rfl⟩
  rw [← hl]
  by_cases c1 : n < 128
  · have kc := fun (wx : World) => new_string wx l #[.int .u8 (n : Int)] 1 (by rw [hl, put_one c1]; exact cells_of (u8n n (by omega))) (by rw [hl, put_one c1]; rfl) (by decide)
    clear h hl
    go_enter Tryd.func60, Tryd.ntmps60
    go_wp2
    go_ret
    exact ⟨rfl, (Below.refl _ _).alloc (Nat.le_refl _) _⟩
  by_cases c2 : n < 2048
  · have kc := fun (wx : World) => new_string wx l #[.int .u8 (192 + (n : Int) / 64), .int .u8 (128 + (n : Int) % 64)] 2 (by rw [hl, put_two (by omega) c2]; exact cells2 (by omega) (by omega) (by omega) (by omega)) (by rw [hl, put_two (by omega) c2]; rfl) (by decide)
    clear h hl
    go_enter Tryd.func60, Tryd.ntmps60
    go_wp2
    go_ret
    exact ⟨rfl, (Below.refl _ _).alloc (Nat.le_refl _) _⟩
  by_cases c3 : n < 65536
  · have kc := fun (wx : World) => new_string wx l #[.int .u8 (224 + (n : Int) / 4096), .int .u8 (128 + (n : Int) / 64 % 64), .int .u8 (128 + (n : Int) % 64)] 3 (by rw [hl, put_three (by omega) c3 h]; exact cells3 (by omega) (by omega) (by omega) (by omega) (by omega) (by omega)) (by rw [hl, put_three (by omega) c3 h]; rfl) (by decide)
    have z1 : decide ((n : Int) < 128) = false := decide_eq_false (by omega)
    have z2 : decide ((n : Int) < 2048) = false := decide_eq_false (by omega)
    have z3 : decide ((n : Int) < 65536) = true := decide_eq_true (by omega)
    have y : (n : Int) ≤ 65535 := by omega
    clear h hl c1 c2 c3
    go_enter Tryd.func60, Tryd.ntmps60
    go_wp2
    go_ret
    exact ⟨rfl, (Below.refl _ _).alloc (Nat.le_refl _) _⟩
  have h4 : n ≤ 1114111 := by omega
  have kc := fun (wx : World) => new_string wx l #[.int .u8 (240 + (n : Int) / 262144), .int .u8 (128 + (n : Int) / 4096 % 64), .int .u8 (128 + (n : Int) / 64 % 64), .int .u8 (128 + (n : Int) % 64)] 4 (by rw [hl, put_four (by omega) h4]; exact cells4 (by omega) (by omega) (by omega) (by omega) (by omega) (by omega) (by omega) (by omega)) (by rw [hl, put_four (by omega) h4]; rfl) (by decide)
  have z1 : decide ((n : Int) < 128) = false := decide_eq_false (by omega)
  have z2 : decide ((n : Int) < 2048) = false := decide_eq_false (by omega)
  have z3 : decide ((n : Int) < 65536) = false := decide_eq_false (by omega)
  have y : (n : Int) ≤ 1114111 := by omega
  clear h hl c1 c2 c3 h4
  go_enter Tryd.func60, Tryd.ntmps60
  go_wp2
  go_ret
  exact ⟨rfl, (Below.refl _ _).alloc (Nat.le_refl _) _⟩

/-- What one tells. -/
def oneEnd (o : Option (List UInt8 × Nat)) : Ending := match o with
  | some (l, n) => .returned (.tuple #[.string ⟨l.toArray⟩, .int .i64 ((n + 1 : Nat) : Int)])
  | none => .returned (.tuple #[.string ⟨#[]⟩, .int .i64 0])
theorem one_ret {o : Option (List UInt8 × Nat)} {l : List UInt8} {n : Nat} {m : Int} {b : ByteArray} (h : o = some (l, n)) (hm : m = ((n + 1 : Nat) : Int)) (hb : b = ⟨l.toArray⟩) : Ending.returned (.tuple #[.string b, .int .i64 m]) = oneEnd o := by rw [h, hm, hb]; rfl
theorem one_nil {o : Option (List UInt8 × Nat)} (h : o = none) : Ending.returned (.tuple #[.string ⟨#[]⟩, .int .i64 0]) = oneEnd o := by rw [h]; rfl

theorem unhexN_some (s : ByteArray) (p d n : Nat) (w : World) (hs : s.size ≤ maxLen) (hp : p ≤ s.size + 1) (hd0 : 0 < d) (hd : d ≤ 6) (h : hexN s p d = some n) :
    Calls Tryd.prog 59 #[.string s, .int .i64 p, .int .i64 d] w fun e w' => e = .returned (.int .i64 n) ∧ w = w' := by
  refine (unhex_any s p d w hs hp hd0 hd).mono ?_
  rintro e w' ⟨rfl, rfl⟩
  exact ⟨by rw [unhexZ_some h], rfl⟩
theorem unhexN_none (s : ByteArray) (p d : Nat) (w : World) (hs : s.size ≤ maxLen) (hp : p ≤ s.size + 1) (hd0 : 0 < d) (hd : d ≤ 6) (h : hexN s p d = none) :
    Calls Tryd.prog 59 #[.string s, .int .i64 p, .int .i64 d] w fun e w' => e = .returned (.int .i64 (-1)) ∧ w = w' := by
  refine (unhex_any s p d w hs hp hd0 hd).mono ?_
  rintro e w' ⟨rfl, rfl⟩
  exact ⟨by rw [unhexZ_none h], rfl⟩
theorem byteAt_none {s : ByteArray} {k : Nat} (h : hexN s (k + 2) 2 = none) : byteAt s (k + 1) = none := by unfold byteAt; rw [show k + 1 + 1 = k + 2 from rfl, h]
theorem byteAt_some {s : ByteArray} {k n : Nat} (h : hexN s (k + 2) 2 = some n) : byteAt s (k + 1) = some ([n.toUInt8], 3) := by unfold byteAt; rw [show k + 1 + 1 = k + 2 from rfl, h]
theorem runeAt_none {s : ByteArray} {k d : Nat} (h : hexN s (k + 2) d = none) : runeAt s (k + 1) d = none := by unfold runeAt; rw [show k + 1 + 1 = k + 2 from rfl, h]
theorem runeAt_some {s : ByteArray} {k d n : Nat} (h : hexN s (k + 2) d = some n) (hr : n < 55296 ∨ (57343 < n ∧ n ≤ 1114111)) : runeAt s (k + 1) d = some (Lib.encodeRune n, d + 1) := by unfold runeAt; rw [show k + 1 + 1 = k + 2 from rfl, h]; exact if_pos hr
theorem runeAt_not {s : ByteArray} {k d n : Nat} (h : hexN s (k + 2) d = some n) (hr : ¬ (n < 55296 ∨ (57343 < n ∧ n ≤ 1114111))) : runeAt s (k + 1) d = none := by unfold runeAt; rw [show k + 1 + 1 = k + 2 from rfl, h]; exact if_neg hr

set_option maxHeartbeats 4000000 in
set_option maxRecDepth 100000 in
theorem one_any (s : ByteArray) (k : Nat) (w : World) (hs : s.size ≤ maxLen) (hk : k < s.size) :
    Calls Tryd.prog 48 #[.string s, .int .i64 k] w fun e w' => e = oneEnd (seqAt s (k + 1)) ∧ Below w.heap.size w w' := by
  have HM := Lib.hid hs
  unfold maxLen at hs
  by_cases h0 : s.size ≤ k + 1
  · have H : Hid (seqAt s (k + 1) = none) := by unfold seqAt; rw [byteN_out s (k + 1) h0]; exact rfl
    go_enter Tryd.func48, Tryd.ntmps48
    go_wp2
    go_ret2
    exact ⟨one_nil H.out, Below.refl _ _⟩
  have hp : k + 1 < s.size := by omega
  clear h0
  have HB := Lib.hid (byteN_at s (k + 1) hp)
  by_cases ea : s[k + 1].toNat = 92
  · have qa : ((s[k + 1].toNat : Int) == 92) = true := by simp; omega
    have H : Hid (seqAt s (k + 1) = some ([92], 1)) := by rw [HB.out] at ea; unfold seqAt; rw [if_pos ea]; exact rfl
    clear ea
    go_enter Tryd.func48, Tryd.ntmps48
    go_wp2
    go_ret2
    exact ⟨one_ret H.out rfl rfl, Below.refl _ _⟩
  have qa : ((s[k + 1].toNat : Int) == 92) = false := by simp; omega
  have Na : Hid (¬ byteN s (k + 1) = 92) := by rw [← HB.out]; exact ea
  clear ea
  by_cases eb : s[k + 1].toNat = 110
  · have qb : ((s[k + 1].toNat : Int) == 110) = true := by simp; omega
    have H : Hid (seqAt s (k + 1) = some ([10], 1)) := by rw [HB.out] at eb; unfold seqAt; rw [if_neg Na.out, if_pos eb]; exact rfl
    clear eb
    go_enter Tryd.func48, Tryd.ntmps48
    go_wp2
    go_ret2
    exact ⟨one_ret H.out rfl rfl, Below.refl _ _⟩
  have qb : ((s[k + 1].toNat : Int) == 110) = false := by simp; omega
  have Nb : Hid (¬ byteN s (k + 1) = 110) := by rw [← HB.out]; exact eb
  clear eb
  by_cases ec : s[k + 1].toNat = 114
  · have qc : ((s[k + 1].toNat : Int) == 114) = true := by simp; omega
    have H : Hid (seqAt s (k + 1) = some ([13], 1)) := by rw [HB.out] at ec; unfold seqAt; rw [if_neg Na.out, if_neg Nb.out, if_pos ec]; exact rfl
    clear ec
    go_enter Tryd.func48, Tryd.ntmps48
    go_wp2
    go_ret2
    exact ⟨one_ret H.out rfl rfl, Below.refl _ _⟩
  have qc : ((s[k + 1].toNat : Int) == 114) = false := by simp; omega
  have Nc : Hid (¬ byteN s (k + 1) = 114) := by rw [← HB.out]; exact ec
  clear ec
  by_cases ed : s[k + 1].toNat = 116
  · have qd : ((s[k + 1].toNat : Int) == 116) = true := by simp; omega
    have H : Hid (seqAt s (k + 1) = some ([9], 1)) := by rw [HB.out] at ed; unfold seqAt; rw [if_neg Na.out, if_neg Nb.out, if_neg Nc.out, if_pos ed]; exact rfl
    clear ed
    go_enter Tryd.func48, Tryd.ntmps48
    go_wp2
    go_ret2
    exact ⟨one_ret H.out rfl rfl, Below.refl _ _⟩
  have qd : ((s[k + 1].toNat : Int) == 116) = false := by simp; omega
  have Nd : Hid (¬ byteN s (k + 1) = 116) := by rw [← HB.out]; exact ed
  clear ed
  by_cases ee : s[k + 1].toNat = 120
  · have qe : ((s[k + 1].toNat : Int) == 120) = true := by simp; omega
    have H : Hid (seqAt s (k + 1) = byteAt s (k + 1)) := by rw [HB.out] at ee; unfold seqAt; rw [if_neg Na.out, if_neg Nb.out, if_neg Nc.out, if_neg Nd.out, if_pos ee]; exact rfl
    clear ee
    cases hx : hexN s (k + 2) 2 with
    | none =>
      have HX := Lib.hid hx
      clear hx
      go_enter Tryd.func48, Tryd.ntmps48
      go_wp2_with (go_at_call 59; refine (unhexN_none s (k + 2) 2 _ HM.out (by omega) (by omega) (by omega) HX.out).mono ?_; rintro e w' ⟨rfl, rfl⟩)
      go_ret2
      exact ⟨one_nil (H.out.trans (byteAt_none HX.out)), Below.refl _ _⟩
    | some n =>
      have HX := Lib.hid hx
      have hn : n < 256 := hexN_lt hx
      clear hx
      obtain ⟨b, hb⟩ : ∃ b : UInt8, b = n.toUInt8 := ⟨_, rfl⟩
      have HBB := Lib.hid hb
      have hbn : (b.toNat : Int) = (n : Int) := by rw [hb]; simp; omega
      clear hb
      have kc := fun (wx : World) => new_string wx [b] #[.int .u8 (n : Int)] 1 (cells_of hbn) rfl (by decide)
      clear hbn
      go_enter Tryd.func48, Tryd.ntmps48
      go_wp2_with (go_at_call 59; refine (unhexN_some s (k + 2) 2 n _ HM.out (by omega) (by omega) (by omega) HX.out).mono ?_; rintro e w' ⟨rfl, rfl⟩)
      go_ret2
      exact ⟨one_ret (H.out.trans (byteAt_some HX.out)) rfl (by rw [HBB.out]), (Below.refl _ _).alloc (Nat.le_refl _) _⟩
  have qe : ((s[k + 1].toNat : Int) == 120) = false := by simp; omega
  have Ne : Hid (¬ byteN s (k + 1) = 120) := by rw [← HB.out]; exact ee
  clear ee
  by_cases ef : s[k + 1].toNat = 117
  · have qf : ((s[k + 1].toNat : Int) == 117) = true := by simp; omega
    have H : Hid (seqAt s (k + 1) = runeAt s (k + 1) 4) := by rw [HB.out] at ef; unfold seqAt; rw [if_neg Na.out, if_neg Nb.out, if_neg Nc.out, if_neg Nd.out, if_neg Ne.out, if_pos ef]; exact rfl
    clear ef
    cases hx : hexN s (k + 2) 4 with
    | none =>
      have HX := Lib.hid hx
      clear hx
      go_enter Tryd.func48, Tryd.ntmps48
      go_wp2_with (go_at_call 59; refine (unhexN_none s (k + 2) 4 _ HM.out (by omega) (by omega) (by omega) HX.out).mono ?_; rintro e w' ⟨rfl, rfl⟩)
      go_ret2
      exact ⟨one_nil (H.out.trans (runeAt_none HX.out)), Below.refl _ _⟩
    | some n =>
      have HX := Lib.hid hx
      clear hx
      by_cases r1 : n < 55296
      · have HR : Hid (n < 55296 ∨ (57343 < n ∧ n ≤ 1114111)) := Or.inl r1
        have z1 : decide ((1114111 : Int) < (n : Int)) = false := decide_eq_false (by omega)
        have z2 : decide ((55296 : Int) ≤ (n : Int)) = false := decide_eq_false (by omega)
        go_enter Tryd.func48, Tryd.ntmps48
        go_wp2_with (first | (go_at_call 59; refine (unhexN_some s (k + 2) 4 n _ HM.out (by omega) (by omega) (by omega) HX.out).mono ?_; rintro e w' ⟨rfl, rfl⟩) | (go_at_call 60; refine (put_any n _ HR.out).mono ?_))
        rintro e w' ⟨rfl, bp⟩
        go_wp2
        go_ret2
        exact ⟨one_ret (H.out.trans (runeAt_some HX.out HR.out)) rfl rfl, bp⟩
      by_cases r2 : n ≤ 57343
      · have HR : Hid (¬ (n < 55296 ∨ (57343 < n ∧ n ≤ 1114111))) := (by omega : ¬ (n < 55296 ∨ (57343 < n ∧ n ≤ 1114111)))
        have z1 : decide ((1114111 : Int) < (n : Int)) = false := decide_eq_false (by omega)
        have z2 : decide ((55296 : Int) ≤ (n : Int)) = true := decide_eq_true (by omega)
        have z3 : decide ((n : Int) ≤ 57343) = true := decide_eq_true (by omega)
        go_enter Tryd.func48, Tryd.ntmps48
        go_wp2_with (go_at_call 59; refine (unhexN_some s (k + 2) 4 n _ HM.out (by omega) (by omega) (by omega) HX.out).mono ?_; rintro e w' ⟨rfl, rfl⟩)
        go_ret2
        exact ⟨one_nil (H.out.trans (runeAt_not HX.out HR.out)), Below.refl _ _⟩
      by_cases r3 : n ≤ 1114111
      · have HR : Hid (n < 55296 ∨ (57343 < n ∧ n ≤ 1114111)) := Or.inr ⟨by omega, r3⟩
        have z1 : decide ((1114111 : Int) < (n : Int)) = false := decide_eq_false (by omega)
        have z2 : decide ((55296 : Int) ≤ (n : Int)) = true := decide_eq_true (by omega)
        have z3 : decide ((n : Int) ≤ 57343) = false := decide_eq_false (by omega)
        go_enter Tryd.func48, Tryd.ntmps48
        go_wp2_with (first | (go_at_call 59; refine (unhexN_some s (k + 2) 4 n _ HM.out (by omega) (by omega) (by omega) HX.out).mono ?_; rintro e w' ⟨rfl, rfl⟩) | (go_at_call 60; refine (put_any n _ HR.out).mono ?_))
        rintro e w' ⟨rfl, bp⟩
        go_wp2
        go_ret2
        exact ⟨one_ret (H.out.trans (runeAt_some HX.out HR.out)) rfl rfl, bp⟩
      · have HR : Hid (¬ (n < 55296 ∨ (57343 < n ∧ n ≤ 1114111))) := (by omega : ¬ (n < 55296 ∨ (57343 < n ∧ n ≤ 1114111)))
        have z1 : decide ((1114111 : Int) < (n : Int)) = true := decide_eq_true (by omega)
        go_enter Tryd.func48, Tryd.ntmps48
        go_wp2_with (go_at_call 59; refine (unhexN_some s (k + 2) 4 n _ HM.out (by omega) (by omega) (by omega) HX.out).mono ?_; rintro e w' ⟨rfl, rfl⟩)
        go_ret2
        exact ⟨one_nil (H.out.trans (runeAt_not HX.out HR.out)), Below.refl _ _⟩
  have qf : ((s[k + 1].toNat : Int) == 117) = false := by simp; omega
  have Nf : Hid (¬ byteN s (k + 1) = 117) := by rw [← HB.out]; exact ef
  clear ef
  by_cases eg : s[k + 1].toNat = 85
  · have qg : ((s[k + 1].toNat : Int) == 85) = true := by simp; omega
    have H : Hid (seqAt s (k + 1) = runeAt s (k + 1) 6) := by rw [HB.out] at eg; unfold seqAt; rw [if_neg Na.out, if_neg Nb.out, if_neg Nc.out, if_neg Nd.out, if_neg Ne.out, if_neg Nf.out, if_pos eg]; exact rfl
    clear eg
    cases hx : hexN s (k + 2) 6 with
    | none =>
      have HX := Lib.hid hx
      clear hx
      go_enter Tryd.func48, Tryd.ntmps48
      go_wp2_with (go_at_call 59; refine (unhexN_none s (k + 2) 6 _ HM.out (by omega) (by omega) (by omega) HX.out).mono ?_; rintro e w' ⟨rfl, rfl⟩)
      go_ret2
      exact ⟨one_nil (H.out.trans (runeAt_none HX.out)), Below.refl _ _⟩
    | some n =>
      have HX := Lib.hid hx
      clear hx
      by_cases r1 : n < 55296
      · have HR : Hid (n < 55296 ∨ (57343 < n ∧ n ≤ 1114111)) := Or.inl r1
        have z1 : decide ((1114111 : Int) < (n : Int)) = false := decide_eq_false (by omega)
        have z2 : decide ((55296 : Int) ≤ (n : Int)) = false := decide_eq_false (by omega)
        go_enter Tryd.func48, Tryd.ntmps48
        go_wp2_with (first | (go_at_call 59; refine (unhexN_some s (k + 2) 6 n _ HM.out (by omega) (by omega) (by omega) HX.out).mono ?_; rintro e w' ⟨rfl, rfl⟩) | (go_at_call 60; refine (put_any n _ HR.out).mono ?_))
        rintro e w' ⟨rfl, bp⟩
        go_wp2
        go_ret2
        exact ⟨one_ret (H.out.trans (runeAt_some HX.out HR.out)) rfl rfl, bp⟩
      by_cases r2 : n ≤ 57343
      · have HR : Hid (¬ (n < 55296 ∨ (57343 < n ∧ n ≤ 1114111))) := (by omega : ¬ (n < 55296 ∨ (57343 < n ∧ n ≤ 1114111)))
        have z1 : decide ((1114111 : Int) < (n : Int)) = false := decide_eq_false (by omega)
        have z2 : decide ((55296 : Int) ≤ (n : Int)) = true := decide_eq_true (by omega)
        have z3 : decide ((n : Int) ≤ 57343) = true := decide_eq_true (by omega)
        go_enter Tryd.func48, Tryd.ntmps48
        go_wp2_with (go_at_call 59; refine (unhexN_some s (k + 2) 6 n _ HM.out (by omega) (by omega) (by omega) HX.out).mono ?_; rintro e w' ⟨rfl, rfl⟩)
        go_ret2
        exact ⟨one_nil (H.out.trans (runeAt_not HX.out HR.out)), Below.refl _ _⟩
      by_cases r3 : n ≤ 1114111
      · have HR : Hid (n < 55296 ∨ (57343 < n ∧ n ≤ 1114111)) := Or.inr ⟨by omega, r3⟩
        have z1 : decide ((1114111 : Int) < (n : Int)) = false := decide_eq_false (by omega)
        have z2 : decide ((55296 : Int) ≤ (n : Int)) = true := decide_eq_true (by omega)
        have z3 : decide ((n : Int) ≤ 57343) = false := decide_eq_false (by omega)
        go_enter Tryd.func48, Tryd.ntmps48
        go_wp2_with (first | (go_at_call 59; refine (unhexN_some s (k + 2) 6 n _ HM.out (by omega) (by omega) (by omega) HX.out).mono ?_; rintro e w' ⟨rfl, rfl⟩) | (go_at_call 60; refine (put_any n _ HR.out).mono ?_))
        rintro e w' ⟨rfl, bp⟩
        go_wp2
        go_ret2
        exact ⟨one_ret (H.out.trans (runeAt_some HX.out HR.out)) rfl rfl, bp⟩
      · have HR : Hid (¬ (n < 55296 ∨ (57343 < n ∧ n ≤ 1114111))) := (by omega : ¬ (n < 55296 ∨ (57343 < n ∧ n ≤ 1114111)))
        have z1 : decide ((1114111 : Int) < (n : Int)) = true := decide_eq_true (by omega)
        go_enter Tryd.func48, Tryd.ntmps48
        go_wp2_with (go_at_call 59; refine (unhexN_some s (k + 2) 6 n _ HM.out (by omega) (by omega) (by omega) HX.out).mono ?_; rintro e w' ⟨rfl, rfl⟩)
        go_ret2
        exact ⟨one_nil (H.out.trans (runeAt_not HX.out HR.out)), Below.refl _ _⟩
  have qg : ((s[k + 1].toNat : Int) == 85) = false := by simp; omega
  have Ng : Hid (¬ byteN s (k + 1) = 85) := by rw [← HB.out]; exact eg
  clear eg
  have H : Hid (seqAt s (k + 1) = none) := by unfold seqAt; rw [if_neg Na.out, if_neg Nb.out, if_neg Nc.out, if_neg Nd.out, if_neg Ne.out, if_neg Nf.out, if_neg Ng.out]; exact rfl
  go_enter Tryd.func48, Tryd.ntmps48
  go_wp2
  go_ret2
  exact ⟨one_nil H.out, Below.refl _ _⟩
end Go.Proofs.YtgakophdgjepmaaDoor
