/- Merged: RcS, ChA, ChB, ChC, ChD, ChE, ChF, ChG. -/
import Derived.Test.YtmggdnnffdaffaaDoorDLeaf
import Derived.Lib.Hide
import Derived.Deep.RegionHeld3
import Derived.Deep.RegionWith
import Derived.Deep.LoopGhost
namespace Go.Proofs.YtmggdnnffdaffaaDoor
section
open Go.RowKit

def dq : ByteArray × ByteArray := (⟨#[]⟩, ⟨#[]⟩)
/-- The cells of pairs of texts, from a place of a block on. -/
def SpA (W : World) (g off : Nat) (l : List (ByteArray × ByteArray)) : Prop := ∀ k, k < l.length → W.cell? ⟨g, off + k * 2, none⟩ = some (.string (l.getD k dq).1) ∧ W.cell? ⟨g, off + k * 2 + 1, none⟩ = some (.string (l.getD k dq).2)
theorem SpA.keep {W w' : World} {g off : Nat} {l : List (ByteArray × ByteArray)} (h : SpA W g off l) (hb : Below W.heap.size W w') (hlt : g < W.heap.size) : SpA w' g off l :=
  fun k hk => ⟨(hb.cell (p := ⟨g, off + k * 2, none⟩) hlt).trans (h k hk).1, (hb.cell (p := ⟨g, off + k * 2 + 1, none⟩) hlt).trans (h k hk).2⟩
/-- A relation, and where its list lies. -/
structure Rl where
  op : ByteArray
  mo : ByteArray
  no : Bool
  wi : Bool
  ad : Option Addr
  n : Nat
  cap : Nat
  l : List (ByteArray × ByteArray)
def Rl.nil : Rl := ⟨⟨#[]⟩, ⟨#[]⟩, false, false, none, 0, 0, []⟩
def Rl.v (x : Rl) : Value := .agg #[.string x.op, .string x.mo, .bool x.no, .bool x.wi, .slice x.ad x.n x.cap]
/-- A list of relations, and where it lies. -/
structure An where
  ad : Option Addr
  n : Nat
  cap : Nat
  l : List Rl
def An.nil : An := ⟨none, 0, 0, []⟩
def An.v (x : An) : Value := .slice x.ad x.n x.cap
/-- Spans, or samples, in memory. -/
structure SpnG (W : World) (ad : Option Addr) (n : Nat) (l : List (ByteArray × ByteArray)) : Prop where
  len : l.length = n
  most : n * 32 ≤ 140737488355328
  at_ : n ≠ 0 → ∃ g off, ad = some ⟨g, off, none⟩ ∧ g < W.heap.size ∧ SpA W g off l
  sz : ∀ k, (l.getD k dq).1.size ≤ 140737488355328 ∧ (l.getD k dq).2.size ≤ 140737488355328
theorem SpnG.keep {W w' : World} {ad : Option Addr} {n : Nat} {l : List (ByteArray × ByteArray)} (h : SpnG W ad n l) (hb : Below W.heap.size W w') : SpnG w' ad n l :=
  ⟨h.len, h.most, fun hn => by
    obtain ⟨g, off, h1, h2, h3⟩ := h.at_ hn
    exact ⟨g, off, h1, Nat.lt_of_lt_of_le h2 hb.size, h3.keep hb h2⟩, h.sz⟩
/-- A relation's cells from a place on. -/
structure RelAt (W : World) (g o : Nat) (x : Rl) : Prop where
  c0 : W.cell? ⟨g, o, none⟩ = some (.string x.op)
  c1 : W.cell? ⟨g, o + 1, none⟩ = some (.string x.mo)
  c2 : W.cell? ⟨g, o + 2, none⟩ = some (.bool x.no)
  c3 : W.cell? ⟨g, o + 3, none⟩ = some (.bool x.wi)
  c4 : W.cell? ⟨g, o + 4, none⟩ = some (.slice x.ad x.n x.cap)
  li : SpnG W x.ad x.n x.l
  ms : x.mo.size ≤ 140737488355328
theorem RelAt.keep {W w' : World} {g o : Nat} {x : Rl} (h : RelAt W g o x) (hb : Below W.heap.size W w') (hg : g < W.heap.size) : RelAt w' g o x :=
  ⟨(hb.cell (p := ⟨g, o, none⟩) hg).trans h.c0, (hb.cell (p := ⟨g, o + 1, none⟩) hg).trans h.c1, (hb.cell (p := ⟨g, o + 2, none⟩) hg).trans h.c2, (hb.cell (p := ⟨g, o + 3, none⟩) hg).trans h.c3,
   (hb.cell (p := ⟨g, o + 4, none⟩) hg).trans h.c4, h.li.keep hb, h.ms⟩
/-- A list of relations in memory. -/
structure AndG (W : World) (ad : Option Addr) (n : Nat) (l : List Rl) : Prop where
  len : l.length = n
  most : n * 64 ≤ 140737488355328
  at_ : n ≠ 0 → ∃ g off, ad = some ⟨g, off, none⟩ ∧ g < W.heap.size ∧ ∀ k, k < n → RelAt W g (off + k * 5) (l.getD k Rl.nil)
theorem AndG.keep {W w' : World} {ad : Option Addr} {n : Nat} {l : List Rl} (h : AndG W ad n l) (hb : Below W.heap.size W w') : AndG w' ad n l :=
  ⟨h.len, h.most, fun hn => by
    obtain ⟨g, off, h1, h2, h3⟩ := h.at_ hn
    exact ⟨g, off, h1, Nat.lt_of_lt_of_le h2 hb.size, fun k hk => (h3 k hk).keep hb h2⟩⟩
/-- Lists of relations in memory. -/
structure OrG (W : World) (ad : Option Addr) (n : Nat) (l : List An) : Prop where
  len : l.length = n
  most : n * 24 ≤ 140737488355328
  at_ : n ≠ 0 → ∃ g off, ad = some ⟨g, off, none⟩ ∧ g < W.heap.size ∧ ∀ k, k < n → W.cell? ⟨g, off + k, none⟩ = some (l.getD k An.nil).v ∧ AndG W (l.getD k An.nil).ad (l.getD k An.nil).n (l.getD k An.nil).l
theorem OrG.keep {W w' : World} {ad : Option Addr} {n : Nat} {l : List An} (h : OrG W ad n l) (hb : Below W.heap.size W w') : OrG w' ad n l :=
  ⟨h.len, h.most, fun hn => by
    obtain ⟨g, off, h1, h2, h3⟩ := h.at_ hn
    exact ⟨g, off, h1, Nat.lt_of_lt_of_le h2 hb.size, fun k hk => ⟨(hb.cell (p := ⟨g, off + k, none⟩) h2).trans (h3 k hk).1, (h3 k hk).2.keep hb⟩⟩⟩

/-- Samples, and where they lie. -/
structure Sg where
  ad : Option Addr
  n : Nat
  cap : Nat
  l : List (ByteArray × ByteArray)
def Sg.v (x : Sg) : Value := .slice x.ad x.n x.cap
/-- A rule, and where its parts lie. -/
structure Ru where
  ad : Option Addr
  n : Nat
  cap : Nat
  l : List An
  si : Sg
  sd : Sg
  mi : Bool
  md : Bool
def Ru.v (x : Ru) : Value := .agg #[.slice x.ad x.n x.cap, x.si.v, x.sd.v, .bool x.mi, .bool x.md]
structure RuG (W : World) (x : Ru) : Prop where
  or : OrG W x.ad x.n x.l
  si : SpnG W x.si.ad x.si.n x.si.l
  sd : SpnG W x.sd.ad x.sd.n x.sd.l
theorem RuG.keep {W w' : World} {x : Ru} (h : RuG W x) (hb : Below W.heap.size W w') : RuG w' x := ⟨h.or.keep hb, h.si.keep hb, h.sd.keep hb⟩
/-- A named rule. -/
structure Nm where
  cat : Int
  ru : Ru
def Ru.nil : Ru := ⟨none, 0, 0, [], ⟨none, 0, 0, []⟩, ⟨none, 0, 0, []⟩, false, false⟩
def Nm.nil : Nm := ⟨0, Ru.nil⟩
def Nm.v (x : Nm) : Value := .agg #[.int .i64 x.cat, .slice x.ru.ad x.ru.n x.ru.cap, x.ru.si.v, x.ru.sd.v, .bool x.ru.mi, .bool x.ru.md]
structure NmAt (W : World) (g o : Nat) (x : Nm) : Prop where
  c0 : W.cell? ⟨g, o, none⟩ = some (.int .i64 x.cat)
  c1 : W.cell? ⟨g, o + 1, none⟩ = some (.slice x.ru.ad x.ru.n x.ru.cap)
  c2 : W.cell? ⟨g, o + 2, none⟩ = some x.ru.si.v
  c3 : W.cell? ⟨g, o + 3, none⟩ = some x.ru.sd.v
  c4 : W.cell? ⟨g, o + 4, none⟩ = some (.bool x.ru.mi)
  c5 : W.cell? ⟨g, o + 5, none⟩ = some (.bool x.ru.md)
  ru : RuG W x.ru
theorem NmAt.keep {W w' : World} {g o : Nat} {x : Nm} (h : NmAt W g o x) (hb : Below W.heap.size W w') (hg : g < W.heap.size) : NmAt w' g o x :=
  ⟨(hb.cell (p := ⟨g, o, none⟩) hg).trans h.c0, (hb.cell (p := ⟨g, o + 1, none⟩) hg).trans h.c1, (hb.cell (p := ⟨g, o + 2, none⟩) hg).trans h.c2, (hb.cell (p := ⟨g, o + 3, none⟩) hg).trans h.c3,
   (hb.cell (p := ⟨g, o + 4, none⟩) hg).trans h.c4, (hb.cell (p := ⟨g, o + 5, none⟩) hg).trans h.c5, h.ru.keep hb⟩
structure SetG (W : World) (ad : Option Addr) (n : Nat) (l : List Nm) : Prop where
  len : l.length = n
  most : n * 88 ≤ 140737488355328
  at_ : n ≠ 0 → ∃ g off, ad = some ⟨g, off, none⟩ ∧ g < W.heap.size ∧ ∀ k, k < n → NmAt W g (off + k * 6) (l.getD k Nm.nil)
theorem SetG.keep {W w' : World} {ad : Option Addr} {n : Nat} {l : List Nm} (h : SetG W ad n l) (hb : Below W.heap.size W w') : SetG w' ad n l :=
  ⟨h.len, h.most, fun hn => by
    obtain ⟨g, off, h1, h2, h3⟩ := h.at_ hn
    exact ⟨g, off, h1, Nat.lt_of_lt_of_le h2 hb.size, fun k hk => (h3 k hk).keep hb h2⟩⟩
theorem getD_take {α : Type} (l : List α) (m k : Nat) (d : α) (h : k < m) : (l.take m).getD k d = l.getD k d := by
  rw [List.getD_eq_getElem?_getD, List.getD_eq_getElem?_getD, List.getElem?_take, if_pos h]
theorem SetG.ahead {W : World} {ad : Option Addr} {n : Nat} {l : List Nm} (h : SetG W ad n l) (m : Nat) (hm : m ≤ n) : SetG W ad m (l.take m) := by
  refine ⟨by rw [List.length_take, h.len]; omega, by have := h.most; omega, fun hn => ?_⟩
  obtain ⟨g, off, h1, h2, h3⟩ := h.at_ (by omega)
  exact ⟨g, off, h1, h2, fun k hk => by rw [getD_take _ _ _ _ hk]; exact h3 k (by omega)⟩

theorem drop_cons {α : Type} (l : List α) (k : Nat) (d : α) (h : k < l.length) : l.drop k = l.getD k d :: l.drop (k + 1) := by
  rw [List.getD_eq_getElem?_getD, List.getElem?_eq_getElem h]
  exact List.drop_eq_getElem_cons h
/-- A box of five cells. -/
structure Bq5 (W : World) (q : Nat) (x0 x1 x2 x3 x4 : Value) : Prop where
  c0 : W.cell? ⟨q, 0, none⟩ = some x0
  c1 : W.cell? ⟨q, 1, none⟩ = some x1
  c2 : W.cell? ⟨q, 2, none⟩ = some x2
  c3 : W.cell? ⟨q, 3, none⟩ = some x3
  c4 : W.cell? ⟨q, 4, none⟩ = some x4
  lt : q < W.heap.size
theorem Bq5.keep {W w' : World} {q : Nat} {x0 x1 x2 x3 x4 : Value} (h : Bq5 W q x0 x1 x2 x3 x4) (k : Below W.heap.size W w') : Bq5 w' q x0 x1 x2 x3 x4 :=
  ⟨(k.cell (p := ⟨q, 0, none⟩) h.lt).trans h.c0, (k.cell (p := ⟨q, 1, none⟩) h.lt).trans h.c1, (k.cell (p := ⟨q, 2, none⟩) h.lt).trans h.c2,
   (k.cell (p := ⟨q, 3, none⟩) h.lt).trans h.c3, (k.cell (p := ⟨q, 4, none⟩) h.lt).trans h.c4, Nat.lt_of_lt_of_le h.lt k.size⟩
theorem bq5_new (w : World) (x0 x1 x2 x3 x4 : Value) (t : TypeId) : Bq5 (w.alloc (.cells #[x0, x1, x2, x3, x4] t)) w.heap.size x0 x1 x2 x3 x4 :=
  ⟨by simp, by simp, by simp, by simp, by simp, by simp⟩
end
section
open Go.RowKit

/-- May a number be a category? -/
def catB (c : Int) : Bool := decide (0 ≤ c) && decide (c < 6)
def catIn (c : Int) (l : List Nm) : Bool := l.any (fun y => y.cat == c)
set_option maxHeartbeats 1000000 in
set_option maxRecDepth 100000 in
theorem isCat_any (c : Int) (w : World) : Calls Tryd.prog 32 #[.int .i64 c] w fun e w' => e = .returned (.bool (catB c)) ∧ Below w.heap.size w w' := by
  unfold catB
  by_cases a : 0 ≤ c
  · by_cases b : c < 6
    · have q1 : decide (0 ≤ c) = true := decide_eq_true a
      have q2 : decide (c < 6) = true := decide_eq_true b
      go_enter Tryd.func32, Tryd.ntmps32
      go_wp2
      go_ret
      exact ⟨by rw [q1, q2]; rfl, Below.refl _ _⟩
    · have q1 : decide (0 ≤ c) = true := decide_eq_true a
      have q2 : decide (c < 6) = false := decide_eq_false b
      go_enter Tryd.func32, Tryd.ntmps32
      go_wp2
      go_ret
      exact ⟨rfl, Below.refl _ _⟩
  · have q1 : decide (0 ≤ c) = false := decide_eq_false a
    go_enter Tryd.func32, Tryd.ntmps32
    go_wp2
    go_ret
    exact ⟨rfl, Below.refl _ _⟩

set_option maxHeartbeats 1000000 in
set_option maxRecDepth 100000 in
/-- The closure of hasCategory. -/
theorem hasCat_pred (c x : Int) (B : Nat) (v1 v2 v3 : Value) (m1 m2 : Bool) (w : World) (hB : w.cell? ⟨B, 0, none⟩ = some (.int .i64 c)) (hlt : B < w.heap.size) :
    Calls Tryd.prog 72 #[.agg #[.int .i64 x, v1, v2, v3, .bool m1, .bool m2], .pointer (some ⟨B, 0, none⟩)] w fun e w' => e = .returned (.bool (x == c)) ∧ Below w.heap.size w w' := by
  have hne : B ≠ w.heap.size := by omega
  go_enter Tryd.func72, Tryd.ntmps72
  go_wp2
  go_ret
  exact ⟨rfl, (Below.refl _ w).alloc (Nat.le_refl _) _⟩

theorem ret_boolC {a b : Bool} (h : a = b) : Ending.returned (.bool a) = .returned (.bool b) := by rw [h]
theorem catIn_take {c : Int} {l : List Nm} {k : Nat} (h : k < l.length) : catIn c (l.take (k + 1)) = (catIn c (l.take k) || ((l.getD k Nm.nil).cat == c)) := by
  unfold catIn
  rw [List.take_add_one, List.any_append, List.getD_eq_getElem?_getD, List.getElem?_eq_getElem h]
  simp

set_option maxHeartbeats 4000000 in
set_option maxRecDepth 100000 in
theorem ixf_any (c : Int) (B : Nat) (ad : Option Addr) (n cap : Nat) (l : List Nm) (w : World) (hS : SetG w ad n l) (hB : w.cell? ⟨B, 0, none⟩ = some (.int .i64 c)) (hlt : B < w.heap.size) :
    Calls Tryd.prog 75 #[.slice ad n cap, .func (.func 72) #[] #[.pointer (some ⟨B, 0, none⟩)]] w fun e w' => (∃ z : Int, e = .returned (.int .i64 z) ∧ decide (0 ≤ z) = catIn c l) ∧ Below w.heap.size w w' := by
  have HB := Lib.hid hB
  have HS := Lib.hid hS
  have hm := hS.most
  have HL := Lib.hid hS.len
  clear hB hS
  go_enter Tryd.func75, Tryd.ntmps75
  go_wp2
  go_loopw [8] (fun i wr => ∃ k : Nat, i = .int .i64 k ∧ k ≤ n ∧ catIn c (l.take k) = false ∧ Below w.heap.size w wr) (fun i _ => n - (intOf i).toNat)
  case atStart => exact ⟨0, rfl, by omega, rfl, Below.refl _ _⟩
  case round =>
    obtain ⟨k, rfl, hk, hC, hb⟩ := hrel
    have HC := Lib.hid hC
    have HW := Lib.hid hb
    have hz := hb.size
    clear hC hb
    by_cases hlt2 : k < n
    · obtain ⟨g, off, had, hg, hA⟩ := HS.out.at_ (by omega)
      subst had
      have hN := (hA k hlt2).keep HW.out hg
      obtain ⟨c0, c1, c2, c3, c4, c5, -⟩ := hN
      unfold Sg.v at c2 c3
      have hc := (HW.out.cell (p := ⟨B, 0, none⟩) hlt).trans HB.out
      have E := catIn_take (c := c) (l := l) (k := k) (by rw [HL.out]; exact hlt2)
      rw [HC.out, Bool.false_or] at E
      have HE := Lib.hid E
      generalize l.getD k Nm.nil = x at *
      clear E hA
      have D := Lib.hid (hasCat_pred c x.cat B (.slice x.ru.ad x.ru.n x.ru.cap) (.slice x.ru.si.ad x.ru.si.n x.ru.si.cap) (.slice x.ru.sd.ad x.ru.sd.n x.ru.sd.cap) x.ru.mi x.ru.md wr hc (by omega))
      clear hc
      cases hq : (x.cat == c) with
      | true =>
        rw [hq] at D HE
        go_wp2_with fail
        (with_reducible refine D.out.mono ?_)
        rintro e w2 ⟨rfl, hb2⟩
        have H2 := Lib.hid (HW.out.trans (hb2.mono hz))
        clear hb2
        go_wp2
        go_ret
        refine ⟨⟨_, rfl, ?_⟩, H2.out⟩
        rw [decide_eq_true (by omega)]
        symm
        rw [← List.take_append_drop (k + 1) l]
        unfold catIn
        rw [List.any_append]
        have := HE.out
        unfold catIn at this
        rw [this, Bool.true_or]
      | false =>
        rw [hq] at D HE
        go_wp2_with fail
        (with_reducible refine D.out.mono ?_)
        rintro e w2 ⟨rfl, hb2⟩
        have H2 := Lib.hid (HW.out.trans (hb2.mono hz))
        clear hb2
        go_wp2
        go_roundw
        case rel => exact ⟨k + 1, by go_num, by omega, HE.out, H2.out⟩
        case measure => simp [intOf]; omega
    · go_wp2
      go_ret
      refine ⟨⟨_, rfl, ?_⟩, HW.out⟩
      rw [decide_eq_false (by decide)]
      have := HC.out
      rw [List.take_of_length_le (by rw [HL.out]; omega)] at this
      exact this.symm

set_option maxHeartbeats 1000000 in
set_option maxRecDepth 100000 in
theorem hasCat_any (c : Int) (ad : Option Addr) (n cap : Nat) (l : List Nm) (w : World) (hS : SetG w ad n l) :
    Calls Tryd.prog 66 #[.slice ad n cap, .int .i64 c] w fun e w' => e = .returned (.bool (catIn c l)) ∧ Below w.heap.size w w' := by
  have hmf : ∀ (fn : Fn) (first cap : Array Value) (w : World), (Instr.makeFunc fn first cap).run Tryd.prog w = .ok (.func fn first cap) w := fun _ _ _ _ => rfl
  have hb0 : Below w.heap.size w (w.alloc (.cells #[.int .i64 c] 3)) := (Below.refl _ w).alloc (Nat.le_refl _) _
  have D := Lib.hid (ixf_any c w.heap.size ad n cap l _ (hS.keep hb0) (by simp) (by simp))
  have HB0 := Lib.hid hb0
  clear hS hb0
  go_enter Tryd.func66, Tryd.ntmps66
  go_wp2_with (first | (go_at_call 71; go_in))
  (with_reducible refine D.out.mono ?_)
  rintro e w2 ⟨⟨z, rfl, hz⟩, hb2⟩
  have HZ := Lib.hid hz
  have H2 := Lib.hid (HB0.out.trans (hb2.mono HB0.out.size))
  clear hz hb2
  go_wp2
  go_ret
  exact ⟨ret_boolC HZ.out, H2.out⟩
end
section
open Go.RowKit

def plE (c : Int) (l : List Nm) : Int := if catIn c l = true then 6 else if catIn 0 l = true then 60 else 0
theorem ret_intC {a b : Int} (h : a = b) : Ending.returned (.int .i64 a) = .returned (.int .i64 b) := by rw [h]

set_option maxHeartbeats 2000000 in
set_option maxRecDepth 100000 in
theorem checkPlace_any (c : Int) (ad : Option Addr) (n cap : Nat) (l : List Nm) (w : World) (hS : SetG w ad n l) :
    Calls Tryd.prog 56 #[.int .i64 c, .slice ad n cap] w fun e w' => e = .returned (.int .i64 (plE c l)) ∧ Below w.heap.size w w' := by
  have D1 := Lib.hid (hasCat_any c ad n cap l w hS)
  have D2 := Lib.hid (fun wx (hb : Below w.heap.size w wx) => hasCat_any 0 ad n cap l wx (hS.keep hb))
  clear hS
  unfold plE
  cases q1 : catIn c l with
  | true =>
    rw [q1] at D1
    go_enter Tryd.func56, Tryd.ntmps56
    go_wp2_with fail
    (with_reducible refine D1.out.mono ?_)
    rintro e w2 ⟨rfl, hb2⟩
    have H2 := Lib.hid hb2
    clear hb2
    go_wp2
    go_ret
    exact ⟨rfl, H2.out⟩
  | false =>
    rw [q1] at D1
    cases q2 : catIn 0 l with
    | true =>
      rw [q2] at D2
      go_enter Tryd.func56, Tryd.ntmps56
      go_wp2_with fail
      (with_reducible refine D1.out.mono ?_)
      rintro e w2 ⟨rfl, hb2⟩
      have H2 := Lib.hid hb2
      clear hb2
      go_wp2_with fail
      (with_reducible refine (D2.out _ H2.out).mono ?_)
      rintro e w3 ⟨rfl, hb3⟩
      have H3 := Lib.hid (H2.out.trans (hb3.mono H2.out.size))
      clear hb3
      go_wp2
      go_ret
      exact ⟨rfl, H3.out⟩
    | false =>
      rw [q2] at D2
      go_enter Tryd.func56, Tryd.ntmps56
      go_wp2_with fail
      (with_reducible refine D1.out.mono ?_)
      rintro e w2 ⟨rfl, hb2⟩
      have H2 := Lib.hid hb2
      clear hb2
      go_wp2_with fail
      (with_reducible refine (D2.out _ H2.out).mono ?_)
      rintro e w3 ⟨rfl, hb3⟩
      have H3 := Lib.hid (H2.out.trans (hb3.mono H2.out.size))
      clear hb3
      go_wp2
      go_ret
      exact ⟨rfl, H3.out⟩

def hlB (c : Int) (n : Nat) : Bool := decide (0 < (n : Int)) == (c != 0)
set_option maxHeartbeats 1000000 in
set_option maxRecDepth 100000 in
theorem hasLists_any (c : Int) (x : Ru) (w : World) : Calls Tryd.prog 57 #[.int .i64 c, x.v] w fun e w' => e = .returned (.bool (hlB c x.n)) ∧ Below w.heap.size w w' := by
  obtain ⟨ad, n, cap, l, ⟨a1, n1, c1, l1⟩, ⟨a2, n2, c2, l2⟩, mi, md⟩ := x
  unfold Ru.v Sg.v hlB
  simp only
  go_enter Tryd.func57, Tryd.ntmps57
  go_wp2
  go_ret
  exact ⟨by simp, (Below.refl _ w).alloc (Nat.le_refl _) _⟩
end
section
open Go.RowKit

/-- What is wrong with a named rule behind others. -/
def nmE (ck : Ru → Int) (x : Nm) (before : List Nm) : Int :=
  if catB x.cat = false then 60 else if plE x.cat before ≠ 0 then plE x.cat before else if ck x.ru ≠ 0 then ck x.ru else if hlB x.cat x.ru.n = true then 0 else 60
def setE (ck : Ru → Int) : List Nm → List Nm → Int
  | _, [] => 0
  | before, x :: l => if nmE ck x before = 0 then setE ck (before ++ [x]) l else nmE ck x before
/-- A box of six cells. -/
structure Bx6 (W : World) (q : Nat) (x0 x1 x2 x3 x4 x5 : Value) : Prop where
  c0 : W.cell? ⟨q, 0, none⟩ = some x0
  c1 : W.cell? ⟨q, 1, none⟩ = some x1
  c2 : W.cell? ⟨q, 2, none⟩ = some x2
  c3 : W.cell? ⟨q, 3, none⟩ = some x3
  c4 : W.cell? ⟨q, 4, none⟩ = some x4
  c5 : W.cell? ⟨q, 5, none⟩ = some x5
  lt : q < W.heap.size
theorem Bx6.keep {W w' : World} {q : Nat} {x0 x1 x2 x3 x4 x5 : Value} (h : Bx6 W q x0 x1 x2 x3 x4 x5) (k : Below W.heap.size W w') : Bx6 w' q x0 x1 x2 x3 x4 x5 :=
  ⟨(k.cell (p := ⟨q, 0, none⟩) h.lt).trans h.c0, (k.cell (p := ⟨q, 1, none⟩) h.lt).trans h.c1, (k.cell (p := ⟨q, 2, none⟩) h.lt).trans h.c2,
   (k.cell (p := ⟨q, 3, none⟩) h.lt).trans h.c3, (k.cell (p := ⟨q, 4, none⟩) h.lt).trans h.c4, (k.cell (p := ⟨q, 5, none⟩) h.lt).trans h.c5, Nat.lt_of_lt_of_le h.lt k.size⟩
theorem bx6_new (w : World) (x0 x1 x2 x3 x4 x5 : Value) (t : TypeId) : Bx6 (w.alloc (.cells #[x0, x1, x2, x3, x4, x5] t)) w.heap.size x0 x1 x2 x3 x4 x5 :=
  ⟨by simp, by simp, by simp, by simp, by simp, by simp, by simp⟩
/-- The contract of rule.Check. -/
def CkR (ck : Ru → Int) (x : Ru) : Prop := ∀ wx : World, RuG wx x → Calls Tryd.prog 20 #[x.v] wx fun e w' => e = .returned (.int .i64 (ck x)) ∧ Below wx.heap.size wx w'

set_option maxHeartbeats 4000000 in
set_option maxRecDepth 100000 in
theorem checkNamed_any (ck : Ru → Int) (x : Nm) (ad : Option Addr) (n cap : Nat) (l : List Nm) (w : World) (hR : CkR ck x.ru) (hX : RuG w x.ru) (hS : SetG w ad n l) :
    Calls Tryd.prog 46 #[x.v, .slice ad n cap] w fun e w' => e = .returned (.int .i64 (nmE ck x l)) ∧ Below w.heap.size w w' := by
  have hb0 : Below w.heap.size w (w.alloc (.cells #[.int .i64 x.cat, .slice x.ru.ad x.ru.n x.ru.cap, x.ru.si.v, x.ru.sd.v, .bool x.ru.mi, .bool x.ru.md] 50)) := (Below.refl _ w).alloc (Nat.le_refl _) _
  have X0 := Lib.hid (bx6_new w (.int .i64 x.cat) (.slice x.ru.ad x.ru.n x.ru.cap) x.ru.si.v x.ru.sd.v (.bool x.ru.mi) (.bool x.ru.md) 50)
  have D1 := Lib.hid (fun wx => isCat_any x.cat wx)
  have D2 := Lib.hid (fun wx (hb : Below w.heap.size w wx) => checkPlace_any x.cat ad n cap l wx (hS.keep hb))
  have D3 := Lib.hid (fun wx (hb : Below w.heap.size w wx) => hR wx (hX.keep hb))
  have D4 := Lib.hid (fun wx => hasLists_any x.cat x.ru wx)
  clear hR hX hS
  unfold nmE
  generalize ck x.ru = c3 at *
  generalize plE x.cat l = c2 at *
  generalize catB x.cat = b1 at *
  generalize hlB x.cat x.ru.n = b4 at *
  obtain ⟨cat, ⟨ra, rn, rc, rl, ⟨a1, n1, c1, l1⟩, ⟨a2, n2, cc2, l2⟩, mi, md⟩⟩ := x
  unfold Nm.v
  unfold Ru.v at D3 D4
  unfold Sg.v at *
  simp only at *
  have HB0 := Lib.hid hb0
  clear  hb0
  cases b1 with
  | false =>
    go_enter Tryd.func46, Tryd.ntmps46
    go_wp2_with fail
    (with_reducible refine (D1.out _).mono ?_)
    rintro e w2 ⟨rfl, hb2⟩
    have H2 := Lib.hid (HB0.out.trans (hb2.mono HB0.out.size))
    have X2 := Lib.hid (X0.out.keep hb2)
    clear hb2
    obtain ⟨e0, e1, e2, e3, e4, e5, -⟩ := X2.out
    go_wp2
    go_ret
    exact ⟨rfl, H2.out⟩
  | true =>
    by_cases q2 : c2 = 0
    · subst q2
      by_cases q3 : c3 = 0
      · subst q3
        cases b4 with
        | true =>
          go_enter Tryd.func46, Tryd.ntmps46
          go_wp2_with fail
          (with_reducible refine (D1.out _).mono ?_)
          rintro e w2 ⟨rfl, hb2⟩
          have H2 := Lib.hid (HB0.out.trans (hb2.mono HB0.out.size))
          have X2 := Lib.hid (X0.out.keep hb2)
          clear hb2
          obtain ⟨e0, e1, e2, e3, e4, e5, -⟩ := X2.out
          go_wp2_with fail
          (with_reducible refine (D2.out _ H2.out).mono ?_)
          rintro e w3 ⟨rfl, hb3⟩
          have H3 := Lib.hid (H2.out.trans (hb3.mono H2.out.size))
          have X3 := Lib.hid (X2.out.keep hb3)
          clear e0 e1 e2 e3 e4 e5
          clear hb3
          obtain ⟨e0, e1, e2, e3, e4, e5, -⟩ := X3.out
          go_wp2_with fail
          (with_reducible refine (D3.out _ H3.out).mono ?_)
          rintro e w4 ⟨rfl, hb4⟩
          have H4 := Lib.hid (H3.out.trans (hb4.mono H3.out.size))
          have X4 := Lib.hid (X3.out.keep hb4)
          clear e0 e1 e2 e3 e4 e5
          clear hb4
          obtain ⟨e0, e1, e2, e3, e4, e5, -⟩ := X4.out
          go_wp2_with fail
          (with_reducible refine (D4.out _).mono ?_)
          rintro e w5 ⟨rfl, hb5⟩
          have H5 := Lib.hid (H4.out.trans (hb5.mono H4.out.size))
          have X5 := Lib.hid (X4.out.keep hb5)
          clear e0 e1 e2 e3 e4 e5
          clear hb5
          obtain ⟨e0, e1, e2, e3, e4, e5, -⟩ := X5.out
          go_wp2
          go_ret
          exact ⟨rfl, H5.out⟩
        | false =>
          go_enter Tryd.func46, Tryd.ntmps46
          go_wp2_with fail
          (with_reducible refine (D1.out _).mono ?_)
          rintro e w2 ⟨rfl, hb2⟩
          have H2 := Lib.hid (HB0.out.trans (hb2.mono HB0.out.size))
          have X2 := Lib.hid (X0.out.keep hb2)
          clear hb2
          obtain ⟨e0, e1, e2, e3, e4, e5, -⟩ := X2.out
          go_wp2_with fail
          (with_reducible refine (D2.out _ H2.out).mono ?_)
          rintro e w3 ⟨rfl, hb3⟩
          have H3 := Lib.hid (H2.out.trans (hb3.mono H2.out.size))
          have X3 := Lib.hid (X2.out.keep hb3)
          clear e0 e1 e2 e3 e4 e5
          clear hb3
          obtain ⟨e0, e1, e2, e3, e4, e5, -⟩ := X3.out
          go_wp2_with fail
          (with_reducible refine (D3.out _ H3.out).mono ?_)
          rintro e w4 ⟨rfl, hb4⟩
          have H4 := Lib.hid (H3.out.trans (hb4.mono H3.out.size))
          have X4 := Lib.hid (X3.out.keep hb4)
          clear e0 e1 e2 e3 e4 e5
          clear hb4
          obtain ⟨e0, e1, e2, e3, e4, e5, -⟩ := X4.out
          go_wp2_with fail
          (with_reducible refine (D4.out _).mono ?_)
          rintro e w5 ⟨rfl, hb5⟩
          have H5 := Lib.hid (H4.out.trans (hb5.mono H4.out.size))
          have X5 := Lib.hid (X4.out.keep hb5)
          clear e0 e1 e2 e3 e4 e5
          clear hb5
          obtain ⟨e0, e1, e2, e3, e4, e5, -⟩ := X5.out
          go_wp2
          go_ret
          exact ⟨rfl, H5.out⟩
      · have q4 : (c3 == 0) = false := beq_eq_false_iff_ne.2 q3
        rw [if_neg (by decide), if_neg (by decide), if_pos q3]
        go_enter Tryd.func46, Tryd.ntmps46
        go_wp2_with fail
        (with_reducible refine (D1.out _).mono ?_)
        rintro e w2 ⟨rfl, hb2⟩
        have H2 := Lib.hid (HB0.out.trans (hb2.mono HB0.out.size))
        have X2 := Lib.hid (X0.out.keep hb2)
        clear hb2
        obtain ⟨e0, e1, e2, e3, e4, e5, -⟩ := X2.out
        go_wp2_with fail
        (with_reducible refine (D2.out _ H2.out).mono ?_)
        rintro e w3 ⟨rfl, hb3⟩
        have H3 := Lib.hid (H2.out.trans (hb3.mono H2.out.size))
        have X3 := Lib.hid (X2.out.keep hb3)
        clear e0 e1 e2 e3 e4 e5
        clear hb3
        obtain ⟨e0, e1, e2, e3, e4, e5, -⟩ := X3.out
        go_wp2_with fail
        (with_reducible refine (D3.out _ H3.out).mono ?_)
        rintro e w4 ⟨rfl, hb4⟩
        have H4 := Lib.hid (H3.out.trans (hb4.mono H3.out.size))
        have X4 := Lib.hid (X3.out.keep hb4)
        clear e0 e1 e2 e3 e4 e5
        clear hb4
        obtain ⟨e0, e1, e2, e3, e4, e5, -⟩ := X4.out
        go_wp2
        go_ret
        exact ⟨rfl, H4.out⟩
    · have q4 : (c2 == 0) = false := beq_eq_false_iff_ne.2 q2
      rw [if_neg (by decide), if_pos q2]
      go_enter Tryd.func46, Tryd.ntmps46
      go_wp2_with fail
      (with_reducible refine (D1.out _).mono ?_)
      rintro e w2 ⟨rfl, hb2⟩
      have H2 := Lib.hid (HB0.out.trans (hb2.mono HB0.out.size))
      have X2 := Lib.hid (X0.out.keep hb2)
      clear hb2
      obtain ⟨e0, e1, e2, e3, e4, e5, -⟩ := X2.out
      go_wp2_with fail
      (with_reducible refine (D2.out _ H2.out).mono ?_)
      rintro e w3 ⟨rfl, hb3⟩
      have H3 := Lib.hid (H2.out.trans (hb3.mono H2.out.size))
      have X3 := Lib.hid (X2.out.keep hb3)
      clear e0 e1 e2 e3 e4 e5
      clear hb3
      obtain ⟨e0, e1, e2, e3, e4, e5, -⟩ := X3.out
      go_wp2
      go_ret
      exact ⟨rfl, H3.out⟩
end
section
open Go.RowKit

theorem setE_cons (ck : Ru → Int) (b l : List Nm) (x : Nm) : setE ck b (x :: l) = if nmE ck x b = 0 then setE ck (b ++ [x]) l else nmE ck x b := rfl
set_option maxHeartbeats 4000000 in
set_option maxRecDepth 100000 in
theorem chCheck_any (ck : Ru → Int) (ad : Option Addr) (n cap : Nat) (l : List Nm) (w : World) (hR : ∀ x ∈ l, CkR ck x.ru) (hS : SetG w ad n l) (hcap : n ≤ cap) :
    Calls Tryd.prog 26 #[.agg #[.slice ad n cap]] w fun e w' => e = .returned (.int .i64 (setE ck [] l)) ∧ Below w.heap.size w w' := by
  have hb0 : Below w.heap.size w (w.alloc (.cells #[.slice ad n cap] 45)) := (Below.refl _ w).alloc (Nat.le_refl _) _
  have hc0 : (w.alloc (.cells #[.slice ad n cap] 45)).cell? ⟨w.heap.size, 0, none⟩ = some (.slice ad n cap) := by simp
  have HS := Lib.hid hS
  have HR := Lib.hid hR
  have HL := Lib.hid hS.len
  have hm := hS.most
  have HB0 := Lib.hid hb0
  have HC0 := Lib.hid hc0
  clear hR hS hb0 hc0
  go_enter Tryd.func26, Tryd.ntmps26
  go_wp2
  generalize hW0 : w.alloc (.cells #[.slice ad n cap] 45) = W0 at *
  have z0 : w.heap.size + 1 ≤ W0.heap.size := by rw [← hW0]; simp
  clear hW0
  go_loopw [9] (fun i wr => ∃ k : Nat, i = .int .i64 k ∧ k ≤ n ∧ Hid (setE ck (l.take k) (l.drop k) = setE ck [] l) ∧ Below W0.heap.size W0 wr) (fun i _ => n - (intOf i).toNat)
  case atStart => exact ⟨0, rfl, by omega, Lib.hid (by simp), Below.refl _ _⟩
  case round =>
    obtain ⟨k, rfl, hk, HE, hb⟩ := hrel
    have HW := Lib.hid hb
    have hz := hb.size
    clear hb
    have HWW := Lib.hid (HB0.out.trans (HW.out.mono HB0.out.size))
    by_cases hlt2 : k < n
    · obtain ⟨g, off, had, hg, hA⟩ := HS.out.at_ (by omega)
      have hN := (hA k hlt2).keep HWW.out hg
      have hc := (HW.out.cell (p := ⟨w.heap.size, 0, none⟩) (by show w.heap.size < _; omega)).trans HC0.out
      have hl : k < l.length := by rw [HL.out]; exact hlt2
      have ed := drop_cons l k Nm.nil hl
      have et : l.take (k + 1) = l.take k ++ [l.getD k Nm.nil] := by
        rw [List.take_add_one, List.getD_eq_getElem?_getD, List.getElem?_eq_getElem hl]; rfl
      have hin : l.getD k Nm.nil ∈ l := by
        rw [List.getD_eq_getElem?_getD, List.getElem?_eq_getElem hl]; exact List.getElem_mem hl
      have HRk := HR.out _ hin
      generalize l.getD k Nm.nil = x at *
      have D := fun wx (hbx : Below wr.heap.size wr wx) => checkNamed_any ck x ad k cap (l.take k) wx HRk (hN.ru.keep hbx) (((HS.out.keep HWW.out).ahead k (by omega)).keep hbx)
      have HE2 := HE.out
      rw [ed, setE_cons, ← et] at HE2
      obtain ⟨r, hr⟩ : ∃ r, r = nmE ck x (l.take k) := ⟨_, rfl⟩
      rw [← hr] at D HE2
      have HE3 := Lib.hid HE2
      have HD := Lib.hid D
      clear HE2 ed et hin D hA HRk hr
      obtain ⟨c0, c1, c2, c3, c4, c5, -⟩ := hN
      subst had
      have hb1 : Below wr.heap.size wr (wr.alloc (.cells #[.int .i64 x.cat, .slice x.ru.ad x.ru.n x.ru.cap, x.ru.si.v, x.ru.sd.v, .bool x.ru.mi, .bool x.ru.md] 50)) := (Below.refl _ _).alloc (Nat.le_refl _) _
      have X1 := Lib.hid (bx6_new wr (.int .i64 x.cat) (.slice x.ru.ad x.ru.n x.ru.cap) x.ru.si.v x.ru.sd.v (.bool x.ru.mi) (.bool x.ru.md) 50)
      have HB1 := Lib.hid hb1
      have hc1 := (hb1.cell (p := ⟨w.heap.size, 0, none⟩) (by show w.heap.size < _; omega)).trans hc
      obtain ⟨cat, ⟨ra, rn, rc, rl, ⟨a1, n1, cc1, l1⟩, ⟨a2, n2, cc2, l2⟩, mi, md⟩⟩ := x
      unfold Nm.v at HD
      unfold Sg.v at *
      simp only at *
      clear hb1
      go_wp2_with fail
      obtain ⟨e0, e1, e2, e3, e4, e5, -⟩ := X1.out
      have hk2 : (k : Int) ≤ (cap : Int) := by omega
      obtain ⟨V, hV⟩ : ∃ V, V = wr.alloc (.cells #[.int .i64 cat, .slice ra rn rc, .slice a1 n1 cc1, .slice a2 n2 cc2, .bool mi, .bool md] 50) := ⟨_, rfl⟩
      rw [← hV] at e0 e1 e2 e3 e4 e5 hc1 HB1 ⊢
      clear hV
      by_cases hr0 : r = 0
      · subst hr0
        have HE4 := HE3.out
        rw [if_pos rfl] at HE4
        have HE5 := Lib.hid HE4
        clear HE4 HE3
        go_region_with (go_at_call 46; (with_reducible refine (HD.out _ HB1.out.drew).mono ?_); rintro e w2 ⟨rfl, hb2⟩)
        all_goals
          have hb3 := HB1.out.drew.trans (hb2.mono (by have := HB1.out.size; simpa using this))
          have H3 := Lib.hid (HW.out.trans (hb3.mono hz))
          clear hb2 hb3
          go_wp2
          go_roundw
          case rel => exact ⟨k + 1, by go_num, by omega, HE5, H3.out⟩
          case measure => simp [intOf]; omega
      · have q4 : (r == 0) = false := beq_eq_false_iff_ne.2 hr0
        have HE4 := HE3.out
        rw [if_neg hr0] at HE4
        have HE5 := Lib.hid HE4
        clear HE4 HE3
        go_region_with (go_at_call 46; (with_reducible refine (HD.out _ HB1.out.drew).mono ?_); rintro e w2 ⟨rfl, hb2⟩)
        all_goals
          have hb3 := HB1.out.drew.trans (hb2.mono (by have := HB1.out.size; simpa using this))
          have H3 := Lib.hid (HWW.out.trans (hb3.mono HWW.out.size))
          clear hb2 hb3
          go_wp2
          go_ret
          exact ⟨ret_intC HE5.out, H3.out⟩
    · go_wp2
      go_ret
      have := HE.out
      rw [List.drop_eq_nil_of_le (by rw [HL.out]; omega)] at this
      exact ⟨ret_intC this, HWW.out⟩
end
section
open Go.RowKit

/-- A box of nine cells. -/
structure Bx9 (W : World) (q : Nat) (x0 x1 x2 x3 x4 x5 x6 x7 x8 : Value) : Prop where
  c0 : W.cell? ⟨q, 0, none⟩ = some x0
  c1 : W.cell? ⟨q, 1, none⟩ = some x1
  c2 : W.cell? ⟨q, 2, none⟩ = some x2
  c3 : W.cell? ⟨q, 3, none⟩ = some x3
  c4 : W.cell? ⟨q, 4, none⟩ = some x4
  c5 : W.cell? ⟨q, 5, none⟩ = some x5
  c6 : W.cell? ⟨q, 6, none⟩ = some x6
  c7 : W.cell? ⟨q, 7, none⟩ = some x7
  c8 : W.cell? ⟨q, 8, none⟩ = some x8
  lt : q < W.heap.size
theorem Bx9.keep {W w' : World} {q : Nat} {x0 x1 x2 x3 x4 x5 x6 x7 x8 : Value} (h : Bx9 W q x0 x1 x2 x3 x4 x5 x6 x7 x8) (k : Below W.heap.size W w') : Bx9 w' q x0 x1 x2 x3 x4 x5 x6 x7 x8 :=
  ⟨(k.cell (p := ⟨q, 0, none⟩) h.lt).trans h.c0, (k.cell (p := ⟨q, 1, none⟩) h.lt).trans h.c1, (k.cell (p := ⟨q, 2, none⟩) h.lt).trans h.c2,
   (k.cell (p := ⟨q, 3, none⟩) h.lt).trans h.c3, (k.cell (p := ⟨q, 4, none⟩) h.lt).trans h.c4, (k.cell (p := ⟨q, 5, none⟩) h.lt).trans h.c5, (k.cell (p := ⟨q, 6, none⟩) h.lt).trans h.c6,
   (k.cell (p := ⟨q, 7, none⟩) h.lt).trans h.c7, (k.cell (p := ⟨q, 8, none⟩) h.lt).trans h.c8, Nat.lt_of_lt_of_le h.lt k.size⟩
theorem bx9_new (w : World) (x0 x1 x2 x3 x4 x5 x6 x7 x8 : Value) (t : TypeId) : Bx9 (w.alloc (.cells #[x0, x1, x2, x3, x4, x5, x6, x7, x8] t)) w.heap.size x0 x1 x2 x3 x4 x5 x6 x7 x8 :=
  ⟨by simp, by simp, by simp, by simp, by simp, by simp, by simp, by simp, by simp, by simp⟩
/-- Operands, as a value. -/
structure Op9 where
  a : Bool
  b : ByteArray
  c : ByteArray
  d : ByteArray
  e : Int
  f : Int
  g : ByteArray
  h : ByteArray
  i : Int
def Op9.v (x : Op9) : Value := .agg #[.bool x.a, .string x.b, .string x.c, .string x.d, .int .i64 x.e, .int .i64 x.f, .string x.g, .string x.h, .int .i64 x.i]
/-- The contract of operand.In at one number. -/
def InR (o : Op9) (hb : Rl → Bool) (x : Rl) : Prop := ∀ wx : World, SpnG wx x.ad x.n x.l → Calls Tryd.prog 10 #[o.v, x.v] wx fun e w' => e = .returned (.tuple #[.bool (hb x), .int .i64 0]) ∧ Below wx.heap.size wx w'
theorem all_takeC {hb : Rl → Bool} {l : List Rl} {k : Nat} (h : k < l.length) : (l.take (k + 1)).all hb = ((l.take k).all hb && hb (l.getD k Rl.nil)) := by
  rw [List.take_add_one, List.all_append, List.getD_eq_getElem?_getD, List.getElem?_eq_getElem h]
  simp
theorem getD_memC {α : Type} {l : List α} {k : Nat} (d : α) (h : k < l.length) : l.getD k d ∈ l := by
  rw [List.getD_eq_getElem?_getD, List.getElem?_eq_getElem h]; exact List.getElem_mem h

set_option maxHeartbeats 4000000 in
set_option maxRecDepth 100000 in
theorem allHold_any (o : Op9) (hb : Rl → Bool) (ad : Option Addr) (n cap : Nat) (l : List Rl) (w : World) (hI : ∀ x ∈ l, InR o hb x) (hS : AndG w ad n l) :
    Calls Tryd.prog 41 #[.slice ad n cap, o.v] w fun e w' => e = .returned (.bool (l.all hb)) ∧ Below w.heap.size w w' := by
  have HS := Lib.hid hS
  have HI := Lib.hid hI
  have HL := Lib.hid hS.len
  have hm := hS.most
  clear hI hS
  obtain ⟨oa, ob, oc, od, oe, of, og, oh, oi⟩ := o
  unfold InR at HI
  unfold Op9.v at *
  simp only at *
  have hb0 : Below w.heap.size w (w.alloc (.cells #[.bool oa, .string ob, .string oc, .string od, .int .i64 oe, .int .i64 of, .string og, .string oh, .int .i64 oi] 30)) := (Below.refl _ w).alloc (Nat.le_refl _) _
  have N0 := Lib.hid (bx9_new w (.bool oa) (.string ob) (.string oc) (.string od) (.int .i64 oe) (.int .i64 of) (.string og) (.string oh) (.int .i64 oi) 30)
  go_enter Tryd.func41, Tryd.ntmps41
  go_wp2
  generalize hW0 : w.alloc (.cells #[.bool oa, .string ob, .string oc, .string od, .int .i64 oe, .int .i64 of, .string og, .string oh, .int .i64 oi] 30) = W0 at *
  have z0 : w.heap.size + 1 ≤ W0.heap.size := by rw [← hW0]; simp
  have HB0 := Lib.hid hb0
  clear hW0 hb0
  go_loopw [11] (fun i wr => ∃ k : Nat, i = .int .i64 k ∧ k ≤ n ∧ (l.take k).all hb = true ∧ Below W0.heap.size W0 wr) (fun i _ => n - (intOf i).toNat)
  case atStart => exact ⟨0, rfl, by omega, rfl, Below.refl _ _⟩
  case round =>
    obtain ⟨k, rfl, hk, hE, hbr⟩ := hrel
    have HE := Lib.hid hE
    have HW := Lib.hid hbr
    have hz := hbr.size
    clear hbr hE
    have HWW := Lib.hid (HB0.out.trans (HW.out.mono HB0.out.size))
    have N1 := Lib.hid (N0.out.keep HW.out)
    by_cases hlt2 : k < n
    · obtain ⟨g, off, had, hg, hA⟩ := HS.out.at_ (by omega)
      have hN := (hA k hlt2).keep HWW.out hg
      have hl : k < l.length := by rw [HL.out]; exact hlt2
      have ea := all_takeC (hb := hb) hl
      rw [HE.out, Bool.true_and] at ea
      have HX := HI.out _ (getD_memC Rl.nil hl)
      generalize l.getD k Rl.nil = x at *
      have D := fun wx (hbx : Below wr.heap.size wr wx) => HX wx (hN.li.keep hbx)
      have HD := Lib.hid D
      have HE2 := Lib.hid ea
      obtain ⟨c0, c1, c2, c3, c4, -, -⟩ := hN
      clear D HX hA ea
      subst had
      obtain ⟨op, mo, no, wi, xa, xn, xc, xl⟩ := x
      unfold Rl.v at HD
      simp only at *
      have hb1 : Below wr.heap.size wr (wr.alloc (.cells #[.string op, .string mo, .bool no, .bool wi, .slice xa xn xc] 40)) := (Below.refl _ _).alloc (Nat.le_refl _) _
      have X1 := Lib.hid (bq5_new wr (.string op) (.string mo) (.bool no) (.bool wi) (.slice xa xn xc) 40)
      have N2 := Lib.hid (N1.out.keep hb1)
      obtain ⟨V, hV⟩ : ∃ V, V = wr.alloc (.cells #[.string op, .string mo, .bool no, .bool wi, .slice xa xn xc] 40) := ⟨_, rfl⟩
      have HV := Lib.hid hV
      have HB1 := Lib.hid (hV ▸ hb1 : Below wr.heap.size wr V)
      clear hV hb1
      obtain ⟨e0, e1, e2, e3, e4, -⟩ := X1.out
      obtain ⟨f0, f1, f2, f3, f4, f5, f6, f7, f8, -⟩ := N2.out
      cases hq : hb ⟨op, mo, no, wi, xa, xn, xc, xl⟩ with
      | true =>
        rw [hq] at HD HE2
        go_wp2_with fail
        rw [← HV.out]
        (with_reducible refine (HD.out _ HB1.out).mono ?_)
        rintro e w2 ⟨rfl, hb2⟩
        have H3 := Lib.hid (HW.out.trans ((HB1.out.trans (hb2.mono HB1.out.size)).mono hz))
        clear hb2
        go_wp2
        go_roundw
        case rel => exact ⟨k + 1, by go_num, by omega, HE2.out, H3.out⟩
        case measure => simp [intOf]; omega
      | false =>
        rw [hq] at HD HE2
        go_wp2_with fail
        rw [← HV.out]
        (with_reducible refine (HD.out _ HB1.out).mono ?_)
        rintro e w2 ⟨rfl, hb2⟩
        have H3 := Lib.hid (HWW.out.trans ((HB1.out.trans (hb2.mono HB1.out.size)).mono HWW.out.size))
        clear hb2
        go_wp2
        go_ret
        refine ⟨ret_boolC ?_, H3.out⟩
        rw [← List.take_append_drop (k + 1) l, List.all_append, HE2.out, Bool.false_and]
    · go_wp2
      go_ret
      refine ⟨ret_boolC ?_, HWW.out⟩
      have := HE.out
      rw [List.take_of_length_le (by rw [HL.out]; omega)] at this
      exact this.symm
end
section
open Go.RowKit

def holdN (hb : Rl → Bool) (x : Nm) : Bool := decide (x.ru.n = 0) || x.ru.l.any (fun a => a.l.all hb)

theorem getD_atC {α : Type} {l : List α} {k : Nat} (d : α) (h : k < l.length) : l.getD k d = l[k] := by
  rw [List.getD_eq_getElem?_getD, List.getElem?_eq_getElem h]; rfl
theorem findIdx_hit {α : Type} {p : α → Bool} {l : List α} {k : Nat} (d : α) (h : k < l.length) (h1 : p (l.getD k d) = true) (h2 : ∀ j, j < k → p (l.getD j d) = false) : l.findIdx p = k := by
  rw [List.findIdx_eq h]
  refine ⟨by rwa [getD_atC d h] at h1, fun j hj => ?_⟩
  have := h2 j hj
  rwa [getD_atC d (by omega)] at this
theorem findIdx_no {α : Type} {p : α → Bool} {l : List α} (d : α) (h2 : ∀ j, j < l.length → p (l.getD j d) = false) : l.findIdx p = l.length := by
  rw [List.findIdx_eq_length]
  intro x hx
  obtain ⟨j, hj, rfl⟩ := List.getElem_of_mem hx
  have := h2 j hj
  rwa [getD_atC d hj] at this
theorem any_takeC {α : Type} {p : α → Bool} {l : List α} {k : Nat} (d : α) (h : k < l.length) : (l.take (k + 1)).any p = ((l.take k).any p || p (l.getD k d)) := by
  rw [List.take_add_one, List.any_append, List.getD_eq_getElem?_getD, List.getElem?_eq_getElem h]
  simp
theorem any_frontC {α : Type} {p : α → Bool} {l : List α} {k : Nat} (h : (l.take k).any p = true) : l.any p = true := by
  rw [← List.take_append_drop k l, List.any_append, h, Bool.true_or]

set_option maxHeartbeats 4000000 in
set_option maxRecDepth 100000 in
theorem first_any (o : Op9) (hb : Rl → Bool) (ad : Option Addr) (n cap : Nat) (l : List Nm) (w : World) (hI : ∀ x ∈ l, ∀ a ∈ x.ru.l, ∀ r ∈ a.l, InR o hb r) (hS : SetG w ad n l) :
    Calls Tryd.prog 22 #[.slice ad n cap, o.v] w fun e w' => e = .returned (.int .i64 (l.findIdx (holdN hb))) ∧ Below w.heap.size w w' := by
  have HS := Lib.hid hS
  have HI := Lib.hid hI
  have HL := Lib.hid hS.len
  have hm := hS.most
  clear hI hS
  have HA := Lib.hid (fun (x : Nm) (hx : x ∈ l) (a : An) (ha : a ∈ x.ru.l) wx (hg : AndG wx a.ad a.n a.l) => allHold_any o hb a.ad a.n a.cap a.l wx (HI.out x hx a ha) hg)
  obtain ⟨oa, ob, oc, od, oe, of, og, oh, oi⟩ := o
  unfold Op9.v at *
  simp only at *
  have hb0 : Below w.heap.size w (w.alloc (.cells #[.bool oa, .string ob, .string oc, .string od, .int .i64 oe, .int .i64 of, .string og, .string oh, .int .i64 oi] 30)) := (Below.refl _ w).alloc (Nat.le_refl _) _
  have N0 := Lib.hid (bx9_new w (.bool oa) (.string ob) (.string oc) (.string od) (.int .i64 oe) (.int .i64 of) (.string og) (.string oh) (.int .i64 oi) 30)
  go_enter Tryd.func22, Tryd.ntmps22
  go_wp2
  go_step3
  go_wp2
  go_step3
  go_wp2
  generalize hW0 : w.alloc (.cells #[.bool oa, .string ob, .string oc, .string od, .int .i64 oe, .int .i64 of, .string og, .string oh, .int .i64 oi] 30) = W0 at *
  have z0 : w.heap.size + 1 ≤ W0.heap.size := by rw [← hW0]; simp
  have HB0 := Lib.hid hb0
  clear hW0 hb0
  go_loopg [5] n (fun g s5 wr => ∃ k : Nat, k + g = n ∧ s5 = .int .i64 k ∧ Aside (∀ j, j < k → holdN hb (l.getD j Nm.nil) = false) ∧ Aside (Below W0.heap.size W0 wr))
  case atStart => exact ⟨0, by omega, rfl, fun j hj => absurd hj (Nat.not_lt_zero _), Below.refl _ _⟩
  case round =>
    obtain ⟨k, hk, rfl, HE, HW⟩ := hrel
    have hz := HW.out.size
    have HWW := Lib.hid (HB0.out.trans (HW.out.mono HB0.out.size))
    have N1 := Lib.hid (N0.out.keep HW.out)
    cases gk with
    | zero =>
      have hkz : ¬ ((k : Int) < (n : Int)) := by omega
      go_wp2
      try rw [Exit.noGoto_ret]
      go_ret
      refine ⟨ret_intC ?_, HWW.out⟩
      rw [findIdx_no Nm.nil (fun j hj => HE.out j (by rw [HL.out] at hj; omega)), HL.out]
      omega
    | succ g =>
      have hkz : ((k : Int) < (n : Int)) := by omega
      have hlt2 : k < n := by omega
      obtain ⟨gb, off, had, hg, hA⟩ := HS.out.at_ (by omega)
      have hN := (hA k hlt2).keep HWW.out hg
      have hl : k < l.length := by rw [HL.out]; exact hlt2
      have hin := getD_memC Nm.nil hl
      have HAk := Lib.hid (HA.out _ hin)
      have HX : Hid (∀ z : Nm, z = l.getD k Nm.nil → holdN hb z = holdN hb (l.getD k Nm.nil)) := Lib.hid (fun z hz => by rw [hz])
      obtain ⟨x, hx⟩ : ∃ x, x = l.getD k Nm.nil := ⟨_, rfl⟩
      rw [← hx] at hN HAk
      have HXX := Lib.hid hx
      obtain ⟨c0, c1, c2, c3, c4, c5, hru⟩ := hN
      have HO := Lib.hid hru.or
      clear hA hin hru hx HX
      subst had
      obtain ⟨cat, ⟨ra, rn, rc, rl, ⟨a1, n1, cc1, l1⟩, ⟨a2, n2, cc2, l2⟩, mi, md⟩⟩ := x
      unfold Sg.v at *
      simp only at *
      by_cases h0 : rn = 0
      · subst h0
        go_wp2
        try rw [Exit.noGoto_ret]
        go_ret
        refine ⟨ret_intC ?_, HWW.out⟩
        rw [findIdx_hit Nm.nil hl (by rw [← HXX.out]; rfl) HE.out]
      · have n0 : ((rn : Int) == 0) = false := beq_eq_false_iff_ne.2 (by omega)
        go_wp2
        clear c0 c1 c2 c3 c4 c5
        rename World => wo
        go_loopg [26] rn (fun g2 s26 wy => ∃ j : Nat, j + g2 = rn ∧ s26 = .int .i64 j ∧ Aside ((rl.take j).any (fun a => a.l.all hb) = false) ∧ Aside (Below wo.heap.size wo wy))
        case atStart => exact ⟨0, by omega, rfl, rfl, Below.refl _ _⟩
        case round =>
          obtain ⟨j, hj, rfl, HJ, HY⟩ := hrel
          have hy := HY.out.size
          have HN := Lib.hid (HWW.out.trans (HY.out.mono HWW.out.size))
          have HM := Lib.hid (HW.out.trans (HY.out.mono HW.out.size))
          cases gk with
          | zero =>
            have hjz : ¬ ((j : Int) < (rn : Int)) := by omega
            go_wp2
            go_roundg g
            case measure => omega
            case rel =>
              refine ⟨k + 1, by omega, by go_num, fun i hi => ?_, HM.out⟩
              by_cases e : i = k
              · have h1 := HJ.out
                rw [List.take_of_length_le (by rw [HO.out.len]; omega)] at h1
                rw [e, ← HXX.out]
                unfold holdN
                simp only
                rw [decide_eq_false h0, h1]
                rfl
              · exact HE.out i (by omega)
          | succ g2 =>
            have hjz : ((j : Int) < (rn : Int)) := by omega
            have hrm := HO.out.most
            obtain ⟨gc, of2, had2, hg2, hA2⟩ := (HO.out.keep HY.out).at_ h0
            have hjl : j < rl.length := by rw [HO.out.len]; omega
            obtain ⟨d0, dA⟩ := hA2 j (by omega)
            have HAj := HAk.out _ (getD_memC An.nil hjl)
            have ea := any_takeC (p := fun a => a.l.all hb) An.nil hjl
            rw [HJ.out, Bool.false_or] at ea
            have EA := Lib.hid ea
            obtain ⟨y, hy0⟩ : ∃ y, y = rl.getD j An.nil := ⟨_, rfl⟩
            rw [← hy0] at d0 dA HAj EA
            have D := Lib.hid (HAj wr dA)
            have NN := Lib.hid (N0.out.keep HM.out)
            clear hA2 dA HAj ea hy0
            subst had2
            obtain ⟨ya, yn, yc, yl⟩ := y
            unfold An.v at d0
            simp only at *
            obtain ⟨f0, f1, f2, f3, f4, f5, f6, f7, f8, -⟩ := NN.out
            cases hq : yl.all hb with
            | true =>
              rw [hq] at D EA
              go_wp2_with fail
              (with_reducible refine D.out.mono ?_)
              rintro e w2 ⟨rfl, hb2⟩
              have H3 := Lib.hid (HN.out.trans (hb2.mono HN.out.size))
              clear hb2
              go_wp2
              try rw [Exit.noGoto_ret]
              go_ret
              refine ⟨ret_intC ?_, H3.out⟩
              rw [findIdx_hit Nm.nil hl ?_ HE.out]
              rw [← HXX.out]
              unfold holdN
              simp only
              rw [any_frontC EA.out, Bool.or_true]
            | false =>
              rw [hq] at D EA
              go_wp2_with fail
              (with_reducible refine D.out.mono ?_)
              rintro e w2 ⟨rfl, hb2⟩
              have H3 := Lib.hid (HY.out.trans (hb2.mono HY.out.size))
              clear hb2
              go_wp2
              go_roundg g2
              case measure => omega
              case rel => exact ⟨j + 1, by omega, by go_num, EA.out, H3.out⟩
end
section
open Go.RowKit

/-- The category of the first rule that holds. -/
def pkC (hb : Rl → Bool) (l : List Nm) : Int := (l.getD (l.findIdx (holdN hb)) Nm.nil).cat
theorem ret_twoC {a b : Int} {c : Int} (h : a = b) : Ending.returned (.tuple #[.int .i64 a, .int .i64 c]) = .returned (.tuple #[.int .i64 b, .int .i64 c]) := by rw [h]

set_option maxHeartbeats 4000000 in
set_option maxRecDepth 100000 in
theorem pick_ok (dn : Bool) (di df : ByteArray) (ex : Int) (o : Op9) (hb : Rl → Bool) (ad : Option Addr) (n cap : Nat) (l : List Nm) (w : World)
    (hO : ∀ wx : World, Calls Tryd.prog 7 #[.agg #[.bool dn, .string di, .string df], .int .i64 ex] wx fun e w' => e = .returned (.tuple #[o.v, .int .i64 0]) ∧ Below wx.heap.size wx w')
    (hI : ∀ x ∈ l, ∀ a ∈ x.ru.l, ∀ r ∈ a.l, InR o hb r) (hS : SetG w ad n l) :
    Calls Tryd.prog 27 #[.slice ad n cap, .agg #[.bool dn, .string di, .string df], .int .i64 ex] w fun e w' => e = .returned (.tuple #[.int .i64 (pkC hb l), .int .i64 0]) ∧ Below w.heap.size w w' := by
  have HF := Lib.hid (fun wx (hx : Below w.heap.size w wx) => first_any o hb ad n cap l wx hI (hS.keep hx))
  have HO := Lib.hid hO
  have HS := Lib.hid hS
  have HL := Lib.hid hS.len
  have hm := hS.most
  have hi : l.findIdx (holdN hb) ≤ l.length := List.findIdx_le_length
  have HP : Hid (pkC hb l = (l.getD (l.findIdx (holdN hb)) Nm.nil).cat) := Lib.hid rfl
  generalize pkC hb l = pc at *
  generalize l.findIdx (holdN hb) = ix at *
  clear hO hI hS
  obtain ⟨oa, ob, oc, od, oe, of, og, oh, oi⟩ := o
  unfold Op9.v at *
  simp only at *
  go_enter Tryd.func27, Tryd.ntmps27
  go_wp2_with fail
  (with_reducible refine (HO.out _).mono ?_)
  rintro e w1 ⟨rfl, hb1⟩
  have B1 : Below w.heap.size w w1 := ((Below.refl _ w).alloc (Nat.le_refl _) _).trans (hb1.mono (by simp))
  have B2 := B1.alloc B1.size (.cells #[.bool oa, .string ob, .string oc, .string od, .int .i64 oe, .int .i64 of, .string og, .string oh, .int .i64 oi] 30)
  have N0 := Lib.hid (bx9_new w1 (.bool oa) (.string ob) (.string oc) (.string od) (.int .i64 oe) (.int .i64 of) (.string og) (.string oh) (.int .i64 oi) 30)
  obtain ⟨f0, f1, f2, f3, f4, f5, f6, f7, f8, -⟩ := N0.out
  obtain ⟨V, hV⟩ : ∃ V, V = w1.alloc (.cells #[.bool oa, .string ob, .string oc, .string od, .int .i64 oe, .int .i64 of, .string og, .string oh, .int .i64 oi] 30) := ⟨_, rfl⟩
  have HV := Lib.hid hV
  have HB := Lib.hid (hV ▸ B2 : Below w.heap.size w V)
  clear hV hb1 B1 B2
  go_wp2_with fail
  rw [← HV.out]
  (with_reducible refine (HF.out _ HB.out).mono ?_)
  rintro e w2 ⟨rfl, hb2⟩
  have H2 := Lib.hid (HB.out.trans (hb2.mono HB.out.size))
  clear hb2 f0 f1 f2 f3 f4 f5 f6 f7 f8
  by_cases hx : ix = n
  · have q : ((ix : Int) == (n : Int)) = true := beq_iff_eq.2 (by omega)
    go_wp2
    go_ret2
    refine ⟨ret_twoC ?_, H2.out⟩
    rw [HP.out, hx, List.getD_eq_getElem?_getD, List.getElem?_eq_none (by rw [HL.out]; omega)]
    rfl
  · have q : ((ix : Int) == (n : Int)) = false := beq_eq_false_iff_ne.2 (by omega)
    have hlt : ix < n := by have := HL.out; omega
    have hlt2 : ((ix : Int) < (n : Int)) := by omega
    obtain ⟨gb, off, had, hg, hA⟩ := HS.out.at_ (by omega)
    have c0 := ((hA ix hlt).keep H2.out hg).c0
    rw [← HP.out] at c0
    clear hA
    subst had
    go_wp2
    go_ret2
    exact ⟨rfl, H2.out⟩

set_option maxHeartbeats 4000000 in
set_option maxRecDepth 100000 in
theorem pick_bad (dn : Bool) (di df : ByteArray) (ex c : Int) (o : Op9) (sv : Value) (w : World) (hc : c ≠ 0)
    (hO : ∀ wx : World, Calls Tryd.prog 7 #[.agg #[.bool dn, .string di, .string df], .int .i64 ex] wx fun e w' => e = .returned (.tuple #[o.v, .int .i64 c]) ∧ Below wx.heap.size wx w') :
    Calls Tryd.prog 27 #[sv, .agg #[.bool dn, .string di, .string df], .int .i64 ex] w fun e w' => e = .returned (.tuple #[.int .i64 0, .int .i64 c]) ∧ Below w.heap.size w w' := by
  have HO := Lib.hid hO
  have q : (c == 0) = false := beq_eq_false_iff_ne.2 hc
  clear hO
  obtain ⟨oa, ob, oc, od, oe, of, og, oh, oi⟩ := o
  unfold Op9.v at *
  simp only at *
  go_enter Tryd.func27, Tryd.ntmps27
  go_wp2_with fail
  (with_reducible refine (HO.out _).mono ?_)
  rintro e w1 ⟨rfl, hb1⟩
  have B1 : Below w.heap.size w w1 := ((Below.refl _ w).alloc (Nat.le_refl _) _).trans (hb1.mono (by simp))
  have B2 := Lib.hid (B1.alloc B1.size (.cells #[.bool oa, .string ob, .string oc, .string od, .int .i64 oe, .int .i64 of, .string og, .string oh, .int .i64 oi] 30))
  clear hb1 B1
  go_wp2
  go_ret2
  exact ⟨rfl, B2.out⟩

/-- The contract of pick. -/
def PkR (sv : Value) (dn : Bool) (di df : ByteArray) (ex : Int) (w : World) (a c : Int) : Prop := ∀ wx : World, Below w.heap.size w wx →
  Calls Tryd.prog 27 #[sv, .agg #[.bool dn, .string di, .string df], .int .i64 ex] wx fun e w' => e = .returned (.tuple #[.int .i64 a, .int .i64 c]) ∧ Below wx.heap.size wx w'
set_option maxHeartbeats 4000000 in
set_option maxRecDepth 100000 in
theorem Pick_any (ck : Ru → Int) (dn : Bool) (di df : ByteArray) (ex a c : Int) (ad : Option Addr) (n cap : Nat) (l : List Nm) (w : World)
    (hR : ∀ x ∈ l, CkR ck x.ru) (hS : SetG w ad n l) (hcap : n ≤ cap) (hP : setE ck [] l = 0 → PkR (.slice ad n cap) dn di df ex w a c) :
    Calls Tryd.prog 11 #[.agg #[.slice ad n cap], .agg #[.bool dn, .string di, .string df], .int .i64 ex] w fun e w' =>
      e = .returned (.tuple #[.int .i64 (if setE ck [] l = 0 then a else 0), .int .i64 (if setE ck [] l = 0 then c else setE ck [] l)]) ∧ Below w.heap.size w w' := by
  have D := Lib.hid (fun wx (hx : Below w.heap.size w wx) => chCheck_any ck ad n cap l wx hR (hS.keep hx) hcap)
  clear hR hS
  generalize setE ck [] l = s at *
  have HP := Lib.hid hP
  unfold PkR at HP
  clear hP
  by_cases h0 : s = 0
  · rw [if_pos h0, if_pos h0]
    subst h0
    go_enter Tryd.func11, Tryd.ntmps11
    go_wp2_with fail
    obtain ⟨W0, hW0⟩ : ∃ W0, W0 = (w.alloc (.cells #[.slice ad n cap] 45)).alloc (.cells #[.bool dn, .string di, .string df] 27) := ⟨_, rfl⟩
    have B0 : Below w.heap.size w W0 := by
      rw [hW0]
      exact ((Below.refl _ w).alloc (Nat.le_refl _) _).alloc (by simp) _
    have z0 : w.heap.size + 2 ≤ W0.heap.size := by rw [hW0]; simp
    have c0 : W0.cell? ⟨w.heap.size, 0, none⟩ = some (.slice ad n cap) := by
      rw [hW0, World.cell?_alloc_past _ _ _ (by simp)]; simp
    have d0 : W0.cell? ⟨w.heap.size + 1, 0, none⟩ = some (.bool dn) := by rw [hW0]; simp
    have d1 : W0.cell? ⟨w.heap.size + 1, 1, none⟩ = some (.string di) := by rw [hW0]; simp
    have d2 : W0.cell? ⟨w.heap.size + 1, 2, none⟩ = some (.string df) := by rw [hW0]; simp
    rw [← hW0]
    clear hW0
    have HB0 := Lib.hid B0
    clear B0
    (with_reducible refine (D.out _ HB0.out).mono ?_)
    rintro e w1 ⟨rfl, hb1⟩
    have H1 := Lib.hid (HB0.out.trans (hb1.mono HB0.out.size))
    have c0 := (hb1.cell (p := ⟨w.heap.size, 0, none⟩) (by show w.heap.size < _; omega)).trans c0
    have d0 := (hb1.cell (p := ⟨w.heap.size + 1, 0, none⟩) (by show w.heap.size + 1 < _; omega)).trans d0
    have d1 := (hb1.cell (p := ⟨w.heap.size + 1, 1, none⟩) (by show w.heap.size + 1 < _; omega)).trans d1
    have d2 := (hb1.cell (p := ⟨w.heap.size + 1, 2, none⟩) (by show w.heap.size + 1 < _; omega)).trans d2
    clear hb1
    go_wp2_with fail
    (with_reducible refine (HP.out (by first | exact rfl | trivial) _ H1.out).mono ?_)
    rintro e w2 ⟨rfl, hb2⟩
    have H2 := Lib.hid (H1.out.trans (hb2.mono H1.out.size))
    clear hb2
    go_wp2
    go_ret2
    exact ⟨rfl, H2.out⟩
  · rw [if_neg h0, if_neg h0]
    have q : (s == 0) = false := beq_eq_false_iff_ne.2 h0
    go_enter Tryd.func11, Tryd.ntmps11
    go_wp2_with fail
    obtain ⟨W0, hW0⟩ : ∃ W0, W0 = (w.alloc (.cells #[.slice ad n cap] 45)).alloc (.cells #[.bool dn, .string di, .string df] 27) := ⟨_, rfl⟩
    have B0 : Below w.heap.size w W0 := by
      rw [hW0]
      exact ((Below.refl _ w).alloc (Nat.le_refl _) _).alloc (by simp) _
    have z0 : w.heap.size + 2 ≤ W0.heap.size := by rw [hW0]; simp
    have c0 : W0.cell? ⟨w.heap.size, 0, none⟩ = some (.slice ad n cap) := by
      rw [hW0, World.cell?_alloc_past _ _ _ (by simp)]; simp
    have d0 : W0.cell? ⟨w.heap.size + 1, 0, none⟩ = some (.bool dn) := by rw [hW0]; simp
    have d1 : W0.cell? ⟨w.heap.size + 1, 1, none⟩ = some (.string di) := by rw [hW0]; simp
    have d2 : W0.cell? ⟨w.heap.size + 1, 2, none⟩ = some (.string df) := by rw [hW0]; simp
    rw [← hW0]
    clear hW0
    have HB0 := Lib.hid B0
    clear B0
    (with_reducible refine (D.out _ HB0.out).mono ?_)
    rintro e w1 ⟨rfl, hb1⟩
    have H1 := Lib.hid (HB0.out.trans (hb1.mono HB0.out.size))
    have c0 := (hb1.cell (p := ⟨w.heap.size, 0, none⟩) (by show w.heap.size < _; omega)).trans c0
    have d0 := (hb1.cell (p := ⟨w.heap.size + 1, 0, none⟩) (by show w.heap.size + 1 < _; omega)).trans d0
    have d1 := (hb1.cell (p := ⟨w.heap.size + 1, 1, none⟩) (by show w.heap.size + 1 < _; omega)).trans d1
    have d2 := (hb1.cell (p := ⟨w.heap.size + 1, 2, none⟩) (by show w.heap.size + 1 < _; omega)).trans d2
    clear hb1
    go_wp2
    go_ret2
    exact ⟨rfl, H1.out⟩
end
end Go.Proofs.YtmggdnnffdaffaaDoor
