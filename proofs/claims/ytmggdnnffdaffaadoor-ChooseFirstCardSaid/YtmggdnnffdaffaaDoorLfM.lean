/- Merged: LawFsA, LawFsB. -/
import Derived.Test.YtmggdnnffdaffaaDoorClM
import Derived.Test.YtmggdnnffdaffaaDoorTpM
import Derived.Test.YtmggdnnffdaffaaDoorMkF
namespace Go.Proofs.YtmggdnnffdaffaaDoor
section
open Go.RowKit

/-- The boxes of a set and a decimal. -/
structure FsI (w W : World) (sv d0 d1 d2 : Value) : Prop where
  below : Below w.heap.size w W
  s0 : W.cell? ⟨w.heap.size, 0, none⟩ = some sv
  d0 : W.cell? ⟨w.heap.size + 1, 0, none⟩ = some d0
  d1 : W.cell? ⟨w.heap.size + 1, 1, none⟩ = some d1
  d2 : W.cell? ⟨w.heap.size + 1, 2, none⟩ = some d2
  lt : w.heap.size + 1 < W.heap.size
theorem FsI.keep {w W W' : World} {sv d0 d1 d2 : Value} (h : FsI w W sv d0 d1 d2) (hb : Below W.heap.size W W') : FsI w W' sv d0 d1 d2 := by
  have l := h.lt
  exact ⟨h.below.trans (hb.mono h.below.size), (hb.cell (p := ⟨w.heap.size, 0, none⟩) (by show w.heap.size < _; omega)).trans h.s0,
    (hb.cell (p := ⟨w.heap.size + 1, 0, none⟩) l).trans h.d0, (hb.cell (p := ⟨w.heap.size + 1, 1, none⟩) l).trans h.d1, (hb.cell (p := ⟨w.heap.size + 1, 2, none⟩) l).trans h.d2, Nat.lt_of_lt_of_le l hb.size⟩
theorem fs_new (w W3 : World) (sv d0 d1 d2 : Value) (t u : TypeId) (hW : W3 = (w.alloc (.cells #[sv] t)).alloc (.cells #[d0, d1, d2] u)) : FsI w W3 sv d0 d1 d2 := by
  obtain ⟨w1, h1⟩ : ∃ w1, w1 = w.alloc (.cells #[sv] t) := ⟨_, rfl⟩
  rw [← h1] at hW
  have s1 : w1.heap.size = w.heap.size + 1 := by rw [h1]; simp
  have s2 : W3.heap.size = w.heap.size + 1 + 1 := by rw [hW]; simp [s1]
  have b1 : Below w.heap.size w w1 := by rw [h1]; exact (Below.refl _ _).alloc (Nat.le_refl _) _
  have b2 : Below w1.heap.size w1 W3 := by rw [hW]; exact (Below.refl _ _).alloc (Nat.le_refl _) _
  have c0 : w1.cell? ⟨w.heap.size, 0, none⟩ = some sv := by rw [h1]; simp
  exact ⟨b1.trans (b2.mono b1.size), (b2.cell (p := ⟨w.heap.size, 0, none⟩) (by show w.heap.size < _; omega)).trans c0,
    by rw [hW, ← s1]; simp, by rw [hW, ← s1]; simp, by rw [hW, ← s1]; simp, by omega⟩
/-- Holds of any copy of a rule returns so. -/
def HdC (o : Op9) (a : Nm) (b : Bool) : Prop := ∀ (y : Ru) (W : World), RuG W y → RuC a.ru y → Calls Tryd.prog 8 #[y.v, o.v] W fun e w' => e = .returned (.tuple #[.bool b, .int .i64 0]) ∧ Below W.heap.size W w'
theorem hd_told {x : Dc} (hx : x.Ok) {E : Nat} (hE : E ≤ 40) (a : Nm) (h0 : ckT a.ru = 0) : HdC (ops9 (absX x) E) a (holdN (hitR (absX x) E) a) := fun y W hY hC => by
  have K := Holds_num x hx E hE y W hY hC.fine
  rw [ckT_e hC, if_pos h0, h0] at K
  rwa [holdN_e (p := absX x) (E := E) 0 a.cat hC] at K
theorem set_rules {l : List Nm} (h : setE ckT [] l = 0) {i : Nat} (hi : i < l.length) : ckT (l.getD i Nm.nil).ru = 0 := (setE_zero h _ (getD_memC Nm.nil hi)).2.1
/-- The category, where the i-th rule is the first one that holds. -/
theorem pk_at {hb : Rl → Bool} {l : List Nm} {i : Nat} (hi : i < l.length) (h1 : holdN hb (l.getD i Nm.nil) = true) (h2 : ∀ j, j < i → holdN hb (l.getD j Nm.nil) = false) : pkC hb l = (l.getD i Nm.nil).cat ∧ pkC hb (l.take (i + 1)) = (l.getD i Nm.nil).cat := by
  refine ⟨by unfold pkC; rw [findIdx_hit Nm.nil hi h1 h2], ?_⟩
  have hl : i < (l.take (i + 1)).length := by rw [List.length_take]; omega
  unfold pkC
  rw [findIdx_hit Nm.nil hl (by rw [getD_take _ _ _ _ (by omega)]; exact h1) (fun j hj => by rw [getD_take _ _ _ _ (by omega)]; exact h2 j hj), getD_take _ _ _ _ (by omega)]
theorem pk_off {hb : Rl → Bool} {l : List Nm} (h2 : ∀ j, j < l.length → holdN hb (l.getD j Nm.nil) = false) : pkC hb l = 0 := by
  unfold pkC
  rw [findIdx_no Nm.nil h2, List.getD_eq_getElem?_getD, List.getElem?_eq_none (Nat.le_refl _)]
  rfl
/-- Copy of a rule, its cells apart. -/
def CpyY (x : Ru) (W : World) : Prop := Calls Tryd.prog 9 #[.agg #[.slice x.ad x.n x.cap, .slice x.si.ad x.si.n x.si.cap, .slice x.sd.ad x.sd.n x.sd.cap, .bool x.mi, .bool x.md]] W fun (_e : Ending) (_w : World) =>
  ∃ y : Ru, _e = .returned y.v ∧ Below W.heap.size W _w ∧ RuG _w y ∧ RuC x y
theorem cpyY (x : Ru) (W : World) (h : RuG W x) : CpyY x W := (rcopy_any x W h).mono fun _e _w ⟨y, he, hb, hY, hc, _⟩ => ⟨y, he, hb, hY, hc⟩
/-- What is known of a set and a number, by cases. -/
theorem first_cases (dn : Bool) (di df : ByteArray) (k : Int) (h1 : di.size ≤ 140737488355328) (h2 : df.size ≤ 140737488355328) (l : List Nm) :
    (∃ c : Int, c ≠ 0 ∧ PkC l dn di df k 0 c) ∨
    (∃ (o : Op9) (hb : Rl → Bool), PkC l dn di df k (pkC hb l) 0 ∧
      (∀ wx : World, Calls Tryd.prog 7 #[.agg #[.bool dn, .string di, .string df], .int .i64 k] wx fun e w' => e = .returned (.tuple #[o.v, .int .i64 0]) ∧ Below wx.heap.size wx w') ∧
      (∀ i, i < l.length → HdC o (l.getD i Nm.nil) (holdN hb (l.getD i Nm.nil))) ∧ ∀ i, i < l.length → PkC (l.take (i + 1)) dn di df k (pkC hb (l.take (i + 1))) 0) := by
  rcases pick_cases dn di df k h1 h2 l with h | ⟨hs, d, x, hd, hx, rfl, rfl, rfl, hk1, hk2, ho, hP⟩
  · exact .inl h
  · obtain ⟨E, rfl⟩ : ∃ E : Nat, k = E := ⟨k.toNat, by omega⟩
    rw [Int.toNat_natCast] at hP
    refine .inr ⟨ops9 (absX x) E, hitR (absX x) E, hP, fun wx => ?_, fun i hi => hd_told hx (by omega) _ (set_rules hs hi), fun i hi => ?_⟩
    · exact of_told hd hx hk1 hk2 ho wx
    · have := pick_right hd hx hk1 hk2 ho (l.take (i + 1)) (setE_take _ hs)
      rwa [Int.toNat_natCast] at this
end
section
open Go.RowKit

set_option maxHeartbeats 8000000 in
set_option maxRecDepth 100000 in
theorem first_walk (ad : Option Addr) (n cap : Nat) (l : List Nm) (dn : Bool) (di df : ByteArray) (ke : Int) (w : World) (hA : n ≤ cap ∧ SetG w ad n l)
    (p1 : di.size ≤ 140737488355328) (p2 : df.size ≤ 140737488355328) (hT : TabC w) :
    Calls Tryd.prog 4 #[.agg #[.slice ad n cap], .agg #[.bool dn, .string di, .string df], .int .i64 ke] w fun e w' => e = .returned (.bool true) ∧ Below w.heap.size w w' := by
  have DA := Lib.hid (fun wx (hx : Below w.heap.size w wx) => cawake_any wx (hT.keep hx))
  have DC := Lib.hid (fun wx (hx : Below w.heap.size w wx) => lcopy_set ad n cap l wx (hA.2.keep hx))
  have HS := Lib.hid hA.2
  have HL := Lib.hid hA.2.len
  have hm := hA.2.most
  have hcap := hA.1
  have K := fs_new w _ (.slice ad n cap) (.bool dn) (.string di) (.string df) 45 27 rfl
  obtain ⟨W0, hW0⟩ : ∃ W0, W0 = (w.alloc (.cells #[.slice ad n cap] 45)).alloc (.cells #[.bool dn, .string di, .string df] 27) := ⟨_, rfl⟩
  rw [← hW0] at K
  have KG := Lib.hid K
  have CC := Lib.hid (first_cases dn di df ke p1 p2 l)
  clear K hA hT p1 p2
  go_enter Tryd.func4, Tryd.ntmps4
  go_wp2_with fail
  rw [← hW0]
  clear hW0
  (with_reducible refine (DA.out _ KG.out.below).mono ?_)
  rintro e w1 ⟨rfl, hb1⟩
  have K1 := Lib.hid (KG.out.keep hb1)
  clear hb1
  rename World => wo
  rcases CC.out with ⟨c, hc, PK⟩ | ⟨o, hb, PK, HO, HH, HP⟩
  · have PKH := Lib.hid PK
    unfold PkC at PKH
    have q : (c == 0) = false := beq_eq_false_iff_ne.2 hc
    clear PK hc
    obtain ⟨-, s0, x0, x1, x2, -⟩ := K1.out
    go_wp2_with fail
    go_region_held3 (fun w' => w'.cell? ⟨w.heap.size, 0, none⟩ = some (.slice ad n cap) ∧ w'.cell? ⟨w.heap.size + 1, 0, none⟩ = some (.bool dn) ∧ w'.cell? ⟨w.heap.size + 1, 1, none⟩ = some (.string di) ∧ w'.cell? ⟨w.heap.size + 1, 2, none⟩ = some (.string df))
      (first
        | (with_reducible exact ⟨s0, x0, x1, x2⟩)
        | (with_reducible exact ⟨(drew_cell _ _).trans s0, (drew_cell _ _).trans x0, (drew_cell _ _).trans x1, (drew_cell _ _).trans x2⟩)
        | (have t := K1.out.keep hA; with_reducible exact ⟨t.s0, t.d0, t.d1, t.d2⟩)
        | (have t := K1.out.keep hP; with_reducible exact ⟨t.s0, t.d0, t.d1, t.d2⟩))
      (first
        | (go_at_call 12; (with_reducible refine (DC.out _ K1.out.below.drew).mono ?_); rintro e wA ⟨oad, ocap, bs, rfl, hbA, hcA, hSA, hFA, hCA⟩; have hA : Below wo.heap.size wo wA := undrew hbA)
        | (go_at_call 11; (with_reducible refine (PKH.out _ _ _ _ _ hSA hcA hFA hCA).mono ?_); rintro e wP ⟨rfl, hbP⟩; have hP : Below wo.heap.size wo wP := hA.trans (hbP.mono hA.size)))
    have K2 := Lib.hid (K1.out.keep hP)
    clear hA hP x0 x1 x2 s0 hSA hcA hFA hCA
    go_wp2
    go_ret
    exact ⟨rfl, K2.out.below⟩
  · have PKH := Lib.hid PK
    unfold PkC at PKH
    have F1 : Hid (∀ i, i < n → (∀ j, j < i → holdN hb (l.getD j Nm.nil) = false) → holdN hb (l.getD i Nm.nil) = true → pkC hb l = (l.getD i Nm.nil).cat ∧ pkC hb (l.take (i + 1)) = (l.getD i Nm.nil).cat) := Lib.hid (fun i hi h2 h1 => pk_at (by rw [HL.out]; exact hi) h1 h2)
    have F2 : Hid ((∀ j, j < n → holdN hb (l.getD j Nm.nil) = false) → pkC hb l = 0) := Lib.hid (fun h => pk_off (fun j hj => h j (by rw [← HL.out]; exact hj)))
    have HHH := Lib.hid HH
    have HPH := Lib.hid HP
    have HOH := Lib.hid HO
    unfold Op9.v at HOH
    generalize pkC hb l = G at *
    obtain ⟨oa, ob, oc, od, oe, of, og, oh, oi⟩ := o
    simp only at HOH
    clear PK HH HP HO CC
    obtain ⟨-, s0, x0, x1, x2, -⟩ := K1.out
    go_wp2_with fail
    go_region_held3 (fun w' => w'.cell? ⟨w.heap.size, 0, none⟩ = some (.slice ad n cap) ∧ w'.cell? ⟨w.heap.size + 1, 0, none⟩ = some (.bool dn) ∧ w'.cell? ⟨w.heap.size + 1, 1, none⟩ = some (.string di) ∧ w'.cell? ⟨w.heap.size + 1, 2, none⟩ = some (.string df))
      (first
        | (with_reducible exact ⟨s0, x0, x1, x2⟩)
        | (with_reducible exact ⟨(drew_cell _ _).trans s0, (drew_cell _ _).trans x0, (drew_cell _ _).trans x1, (drew_cell _ _).trans x2⟩)
        | (have t := K1.out.keep hA; with_reducible exact ⟨t.s0, t.d0, t.d1, t.d2⟩)
        | (have t := K1.out.keep hP; with_reducible exact ⟨t.s0, t.d0, t.d1, t.d2⟩))
      (first
        | (go_at_call 12; (with_reducible refine (DC.out _ K1.out.below.drew).mono ?_); rintro e wA ⟨oad, ocap, bs, rfl, hbA, hcA, hSA, hFA, hCA⟩; have hA : Below wo.heap.size wo wA := undrew hbA)
        | (go_at_call 11; (with_reducible refine (PKH.out _ _ _ _ _ hSA hcA hFA hCA).mono ?_); rintro e wP ⟨rfl, hbP⟩; have hP : Below wo.heap.size wo wP := hA.trans (hbP.mono hA.size)))
    have K2 := Lib.hid (K1.out.keep hP)
    clear hA hP x0 x1 x2 s0 hSA hcA hFA hCA
    rename World => wp
    obtain ⟨-, s0, x0, x1, x2, -⟩ := K2.out
    go_wp2_with fail
    (with_reducible refine (HOH.out _).mono ?_)
    rintro e w3 ⟨rfl, hb3⟩
    have K3 := Lib.hid (K2.out.keep hb3)
    clear hb3 x0 x1 x2 s0
    obtain ⟨-, s0, -⟩ := K3.out
    go_wp2_with fail
    have b4 : Below w3.heap.size w3 (w3.alloc (.cells #[.bool oa, .string ob, .string oc, .string od, .int .i64 oe, .int .i64 of, .string og, .string oh, .int .i64 oi] 30)) := (Below.refl _ _).alloc (Nat.le_refl _) _
    have O4 := Lib.hid (bx9_new w3 (.bool oa) (.string ob) (.string oc) (.string od) (.int .i64 oe) (.int .i64 of) (.string og) (.string oh) (.int .i64 oi) 30)
    have K4 := Lib.hid (K3.out.keep b4)
    clear b4 K3 s0
    obtain ⟨-, s0, -⟩ := K4.out
    generalize w3.alloc (.cells #[.bool oa, .string ob, .string oc, .string od, .int .i64 oe, .int .i64 of, .string og, .string oh, .int .i64 oi] 30) = W4 at *
    generalize w3.heap.size = q at *
    clear s0
    go_loopg [10] n (fun g s4 wr => ∃ k : Nat, k + g = n ∧ s4 = .int .i64 k ∧ Aside (Below W4.heap.size W4 wr) ∧ Aside (∀ j, j < k → holdN hb (l.getD j Nm.nil) = false))
    case atStart => exact ⟨0, by omega, rfl, Below.refl _ _, fun j hj => absurd hj (Nat.not_lt_zero _)⟩
    case round =>
      obtain ⟨k, hk, rfl, HW, HE⟩ := hrel
      have K5 := Lib.hid (K4.out.keep HW.out)
      have O5 := Lib.hid (O4.out.keep HW.out)
      obtain ⟨-, s0, y0, y1, y2, -⟩ := K5.out
      cases gk with
      | zero =>
        have hkz : ¬ ((k : Int) < (n : Int)) := by omega
        obtain rfl := F2.out (fun j hj => HE.out j (by omega))
        go_wp2
        go_ret
        exact ⟨rfl, K5.out.below⟩
      | succ g =>
        have hkz : ((k : Int) < (n : Int)) := by omega
        obtain ⟨gb, off, had, hg, hAt⟩ := (HS.out.keep K5.out.below).at_ (by omega)
        have hN := hAt k (by omega)
        have hH := HHH.out k (by rw [HL.out]; omega)
        have hP2 := HPH.out k (by rw [HL.out]; omega)
        have hF := F1.out k (by omega) HE.out
        obtain ⟨x, hx⟩ : ∃ x, x = l.getD k Nm.nil := ⟨_, rfl⟩
        rw [← hx] at hN hH hF
        have HXX := Lib.hid hx
        have HHK := Lib.hid hH
        unfold HdC at HHK
        have HFF := Lib.hid hF
        have HPK := Lib.hid hP2
        unfold PkC at HPK
        clear hx hAt hH hF hP2
        obtain ⟨c0, c1, c2, c3, c4, c5, hru⟩ := hN
        have D := Lib.hid (fun wx (hx : Below wr.heap.size wr wx) => cpyY x.ru wx (hru.keep hx))
        unfold CpyY at D
        clear hru
        subst had
        obtain ⟨cat, ⟨ra, rn, rc, rl, ⟨a1, n1, cc1, l1⟩, ⟨a2, n2, cc2, l2⟩, mi, md⟩⟩ := x
        unfold Sg.v at *
        unfold Op9.v at HHK
        simp only at *
        obtain ⟨f0, f1, f2, f3, f4, f5, f6, f7, f8, hqlt⟩ := O5.out
        cases hbx : holdN hb ⟨cat, ⟨ra, rn, rc, rl, ⟨a1, n1, cc1, l1⟩, ⟨a2, n2, cc2, l2⟩, mi, md⟩⟩ with
        | false =>
          rw [hbx] at HHK
          have HBX := Lib.hid hbx
          clear hbx HFF HPK
          go_wp2_with fail
          go_region_held3 (fun w' => w'.cell? ⟨w.heap.size, 0, none⟩ = some (.slice (some ⟨gb, off, none⟩) n cap) ∧ (w'.cell? ⟨gb, off + k * 6 + 1, none⟩ = some (.slice ra rn rc) ∧ w'.cell? ⟨gb, off + k * 6 + 2, none⟩ = some (.slice a1 n1 cc1) ∧ w'.cell? ⟨gb, off + k * 6 + 3, none⟩ = some (.slice a2 n2 cc2) ∧ w'.cell? ⟨gb, off + k * 6 + 4, none⟩ = some (.bool mi) ∧ w'.cell? ⟨gb, off + k * 6 + 5, none⟩ = some (.bool md)) ∧
              (w'.cell? ⟨q, 0, none⟩ = some (.bool oa) ∧ w'.cell? ⟨q, 1, none⟩ = some (.string ob) ∧ w'.cell? ⟨q, 2, none⟩ = some (.string oc) ∧ w'.cell? ⟨q, 3, none⟩ = some (.string od) ∧ w'.cell? ⟨q, 4, none⟩ = some (.int .i64 oe) ∧ w'.cell? ⟨q, 5, none⟩ = some (.int .i64 of) ∧ w'.cell? ⟨q, 6, none⟩ = some (.string og) ∧ w'.cell? ⟨q, 7, none⟩ = some (.string oh) ∧ w'.cell? ⟨q, 8, none⟩ = some (.int .i64 oi)))
            (first
              | (with_reducible exact ⟨s0, ⟨c1, c2, c3, c4, c5⟩, f0, f1, f2, f3, f4, f5, f6, f7, f8⟩)
              | (with_reducible exact ⟨(drew_cell _ _).trans s0, ⟨(drew_cell _ _).trans c1, (drew_cell _ _).trans c2, (drew_cell _ _).trans c3, (drew_cell _ _).trans c4, (drew_cell _ _).trans c5⟩, (drew_cell _ _).trans f0, (drew_cell _ _).trans f1, (drew_cell _ _).trans f2, (drew_cell _ _).trans f3, (drew_cell _ _).trans f4, (drew_cell _ _).trans f5, (drew_cell _ _).trans f6, (drew_cell _ _).trans f7, (drew_cell _ _).trans f8⟩)
              | (have t := K5.out.keep hA; have u := O5.out.keep hA; with_reducible exact ⟨t.s0, ⟨(hA.cell (p := ⟨gb, off + k * 6 + 1, none⟩) hg).trans c1, (hA.cell (p := ⟨gb, off + k * 6 + 2, none⟩) hg).trans c2, (hA.cell (p := ⟨gb, off + k * 6 + 3, none⟩) hg).trans c3, (hA.cell (p := ⟨gb, off + k * 6 + 4, none⟩) hg).trans c4, (hA.cell (p := ⟨gb, off + k * 6 + 5, none⟩) hg).trans c5⟩, u.c0, u.c1, u.c2, u.c3, u.c4, u.c5, u.c6, u.c7, u.c8⟩)
              | (have t := K5.out.keep hP; have u := O5.out.keep hP; with_reducible exact ⟨t.s0, ⟨(hP.cell (p := ⟨gb, off + k * 6 + 1, none⟩) hg).trans c1, (hP.cell (p := ⟨gb, off + k * 6 + 2, none⟩) hg).trans c2, (hP.cell (p := ⟨gb, off + k * 6 + 3, none⟩) hg).trans c3, (hP.cell (p := ⟨gb, off + k * 6 + 4, none⟩) hg).trans c4, (hP.cell (p := ⟨gb, off + k * 6 + 5, none⟩) hg).trans c5⟩, u.c0, u.c1, u.c2, u.c3, u.c4, u.c5, u.c6, u.c7, u.c8⟩))
            (first
              | (go_at_call 9; (with_reducible refine (D.out _ (Below.refl wr.heap.size wr).drew).mono ?_); rintro e wA ⟨y, rfl, hbA, hYA, hCA⟩; have hA : Below wr.heap.size wr wA := undrew hbA)
              | (go_at_call 8; (with_reducible refine (HHK.out y _ hYA hCA).mono ?_); rintro e wP ⟨rfl, hbP⟩; have hP : Below wr.heap.size wr wP := hA.trans (hbP.mono hA.size)))
          have HW6 := Lib.hid (HW.out.trans (hP.mono HW.out.size))
          clear hP hA hYA hCA f0 f1 f2 f3 f4 f5 f6 f7 f8 c1 c2 c3 c4 c5 s0
          go_wp2
          go_roundg g
          case measure => omega
          case rel =>
            refine ⟨k + 1, by omega, by go_num, HW6.out, fun j hj => ?_⟩
            by_cases e : j = k
            · rw [e, ← HXX.out]
              exact HBX.out
            · exact HE.out j (by omega)
        | true =>
          rw [hbx] at HHK
          obtain ⟨hG, hT⟩ := HFF.out hbx
          rw [hT] at HPK
          clear hbx HFF hT
          subst hG
          go_wp2_with fail
          go_region_held3 (fun w' => w'.cell? ⟨w.heap.size, 0, none⟩ = some (.slice (some ⟨gb, off, none⟩) n cap) ∧ (w'.cell? ⟨gb, off + k * 6 + 1, none⟩ = some (.slice ra rn rc) ∧ w'.cell? ⟨gb, off + k * 6 + 2, none⟩ = some (.slice a1 n1 cc1) ∧ w'.cell? ⟨gb, off + k * 6 + 3, none⟩ = some (.slice a2 n2 cc2) ∧ w'.cell? ⟨gb, off + k * 6 + 4, none⟩ = some (.bool mi) ∧ w'.cell? ⟨gb, off + k * 6 + 5, none⟩ = some (.bool md)) ∧
              (w'.cell? ⟨q, 0, none⟩ = some (.bool oa) ∧ w'.cell? ⟨q, 1, none⟩ = some (.string ob) ∧ w'.cell? ⟨q, 2, none⟩ = some (.string oc) ∧ w'.cell? ⟨q, 3, none⟩ = some (.string od) ∧ w'.cell? ⟨q, 4, none⟩ = some (.int .i64 oe) ∧ w'.cell? ⟨q, 5, none⟩ = some (.int .i64 of) ∧ w'.cell? ⟨q, 6, none⟩ = some (.string og) ∧ w'.cell? ⟨q, 7, none⟩ = some (.string oh) ∧ w'.cell? ⟨q, 8, none⟩ = some (.int .i64 oi)))
            (first
              | (with_reducible exact ⟨s0, ⟨c1, c2, c3, c4, c5⟩, f0, f1, f2, f3, f4, f5, f6, f7, f8⟩)
              | (with_reducible exact ⟨(drew_cell _ _).trans s0, ⟨(drew_cell _ _).trans c1, (drew_cell _ _).trans c2, (drew_cell _ _).trans c3, (drew_cell _ _).trans c4, (drew_cell _ _).trans c5⟩, (drew_cell _ _).trans f0, (drew_cell _ _).trans f1, (drew_cell _ _).trans f2, (drew_cell _ _).trans f3, (drew_cell _ _).trans f4, (drew_cell _ _).trans f5, (drew_cell _ _).trans f6, (drew_cell _ _).trans f7, (drew_cell _ _).trans f8⟩)
              | (have t := K5.out.keep hA; have u := O5.out.keep hA; with_reducible exact ⟨t.s0, ⟨(hA.cell (p := ⟨gb, off + k * 6 + 1, none⟩) hg).trans c1, (hA.cell (p := ⟨gb, off + k * 6 + 2, none⟩) hg).trans c2, (hA.cell (p := ⟨gb, off + k * 6 + 3, none⟩) hg).trans c3, (hA.cell (p := ⟨gb, off + k * 6 + 4, none⟩) hg).trans c4, (hA.cell (p := ⟨gb, off + k * 6 + 5, none⟩) hg).trans c5⟩, u.c0, u.c1, u.c2, u.c3, u.c4, u.c5, u.c6, u.c7, u.c8⟩)
              | (have t := K5.out.keep hP; have u := O5.out.keep hP; with_reducible exact ⟨t.s0, ⟨(hP.cell (p := ⟨gb, off + k * 6 + 1, none⟩) hg).trans c1, (hP.cell (p := ⟨gb, off + k * 6 + 2, none⟩) hg).trans c2, (hP.cell (p := ⟨gb, off + k * 6 + 3, none⟩) hg).trans c3, (hP.cell (p := ⟨gb, off + k * 6 + 4, none⟩) hg).trans c4, (hP.cell (p := ⟨gb, off + k * 6 + 5, none⟩) hg).trans c5⟩, u.c0, u.c1, u.c2, u.c3, u.c4, u.c5, u.c6, u.c7, u.c8⟩))
            (first
              | (go_at_call 9; (with_reducible refine (D.out _ (Below.refl wr.heap.size wr).drew).mono ?_); rintro e wA ⟨y, rfl, hbA, hYA, hCA⟩; have hA : Below wr.heap.size wr wA := undrew hbA)
              | (go_at_call 8; (with_reducible refine (HHK.out y _ hYA hCA).mono ?_); rintro e wP ⟨rfl, hbP⟩; have hP : Below wr.heap.size wr wP := hA.trans (hbP.mono hA.size)))
          have K6 := Lib.hid (K5.out.keep hP)
          clear hP hA hYA hCA f0 f1 f2 f3 f4 f5 f6 f7 f8 c1 c2 c3 c4 c5 s0
          rename World => wz
          have D9 := Lib.hid (lcopy_set (some ⟨gb, off, none⟩) (k + 1) cap (l.take (k + 1)) wz ((HS.out.keep K6.out.below).ahead (k + 1) (by omega)))
          have hk1 : ((k : Int) + 1 ≤ (cap : Int)) := by omega
          have hk0 : (0 : Int) ≤ (k : Int) + 1 := by omega
          have hwr : IntKind.i64.wrap ((k : Int) + 1) = (k : Int) + 1 := IntWalk.i64_in _ (by omega)
          obtain ⟨-, s0, y0, y1, y2, -⟩ := K6.out
          go_wp2_with fail
          (with_reducible refine D9.out.mono ?_)
          rintro e w5 ⟨oad2, ocap2, bs2, rfl, hb5, hc5, hS5, hF5, hC5⟩
          have b6 : Below w5.heap.size w5 (w5.alloc (.cells #[.slice oad2 (k + 1) ocap2] 45)) := (Below.refl _ _).alloc (Nat.le_refl _) _
          have K8 := Lib.hid ((K6.out.keep hb5).keep b6)
          have hS6 := hS5.keep b6
          have HCALL := Lib.hid (fun wx (hx : SetG wx oad2 (k + 1) bs2) => HPK.out oad2 (k + 1) ocap2 bs2 wx hx hc5 hF5 hC5)
          have HS6 := Lib.hid hS6
          have e0 : (w5.alloc (.cells #[.slice oad2 (k + 1) ocap2] 45)).cell? ⟨w5.heap.size, 0, none⟩ = some (.slice oad2 (k + 1) ocap2) := by simp
          clear b6 hS6 hb5 hS5 hc5 hF5 hC5 s0 y0 y1 y2 D9 hk1 hk0 hwr
          obtain ⟨-, s0, y0, y1, y2, -⟩ := K8.out
          go_wp2_with fail
          (with_reducible refine (HCALL.out _ HS6.out).mono ?_)
          rintro e w9 ⟨rfl, hb9⟩
          have K9 := Lib.hid (K8.out.keep hb9)
          clear hb9 s0 y0 y1 y2 e0
          obtain ⟨g0, o0, had0, hg0, hA0⟩ := (HS.out.keep K9.out.below).at_ (by omega)
          obtain ⟨rfl, rfl⟩ : gb = g0 ∧ off = o0 := by
            have := Option.some.inj had0
            exact ⟨congrArg Addr.block this, congrArg Addr.off this⟩
          have hN9 := hA0 k (by omega)
          rw [← HXX.out] at hN9
          have c9 := hN9.c0
          clear hN9 hA0 had0
          simp only at c9
          obtain ⟨-, s0, -⟩ := K9.out
          go_wp2
          go_ret
          exact ⟨rfl, K9.out.below⟩
end
end Go.Proofs.YtmggdnnffdaffaaDoor
