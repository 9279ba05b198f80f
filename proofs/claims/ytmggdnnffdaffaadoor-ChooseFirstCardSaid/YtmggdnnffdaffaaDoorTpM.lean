/- Merged: TpA, TpB, TpC. -/
import Derived.Test.YtmggdnnffdaffaaDoorCpB
import Derived.Deep.RegionHeld3
import Derived.Deep.AppendLies
import Derived.Deep.RegionLaw
import Derived.Test.YtmggdnnffdaffaaDoorClM
namespace Go.Proofs.YtmggdnnffdaffaaDoor
section
open Go.RowKit

theorem nm_info : (Tryd.prog.info? 50).map (fun i => (i.zero, i.size, i.bytes)) = some (some (.agg #[.int .i64 0, .slice none 0 0, .slice none 0 0, .slice none 0 0, .bool false, .bool false]), 6, 88) := by kernel_rfl
/-- The cells of named rules. -/
def Nm.cs (x : Nm) : List Value := [.int .i64 x.cat, .slice x.ru.ad x.ru.n x.ru.cap, x.ru.si.v, x.ru.sd.v, .bool x.ru.mi, .bool x.ru.md]
def flatN (l : List Nm) : List Value := l.flatMap Nm.cs
theorem flatN_snoc (l : List Nm) (x : Nm) : flatN (l ++ [x]) = flatN l ++ x.cs := by
  unfold flatN
  rw [List.flatMap_append]
  simp
theorem flatN_at (l : List Nm) (k i : Nat) (hk : k < l.length) (hi : i < 6) : (flatN l)[k * 6 + i]? = (l.getD k Nm.nil).cs[i]? := by
  induction l generalizing k with
  | nil => cases hk
  | cons r l ih =>
    show (r.cs ++ flatN l)[k * 6 + i]? = _
    have h6 : r.cs.length = 6 := rfl
    match k with
    | 0 =>
      rw [List.getElem?_append_left (by omega), Nat.zero_mul, Nat.zero_add]
      rfl
    | k + 1 =>
      rw [List.getElem?_append_right (by omega), h6, show (k + 1) * 6 + i - 6 = k * 6 + i by omega, ih k (by simpa using hk)]
      rfl
/-- Between two rounds. -/
structure TcI (w wr : World) (sv ov : Value) (bs : List Nm) : Prop where
  below : Below w.heap.size w wr
  c0 : wr.cell? ⟨w.heap.size, 0, none⟩ = some sv
  c1 : wr.cell? ⟨w.heap.size + 1, 0, none⟩ = some (.slice none 0 0)
  f1 : wr.frozen? ⟨w.heap.size + 1, 0, none⟩ = false
  c2 : wr.cell? ⟨w.heap.size + 1 + 1, 0, none⟩ = some ov
  f2 : wr.frozen? ⟨w.heap.size + 1 + 1, 0, none⟩ = false
  t1 : TyB wr (w.heap.size + 1) 45
  t2 : TyB wr (w.heap.size + 1 + 1) 45
  own : wr.ownsRow (w.heap.size + 1 + 1 + 1) 50 6 ov bs.length (flatN bs)
  rus : ∀ b ∈ bs, RuT wr b.ru
theorem TcI.keep {w wr w' : World} {sv ov : Value} {bs : List Nm} (h : TcI w wr sv ov bs) (hb : Below wr.heap.size wr w') : TcI w w' sv ov bs := by
  have l2 := h.t2.lt
  exact ⟨h.below.trans (hb.mono h.below.size), (hb.cell (p := ⟨w.heap.size, 0, none⟩) (by show w.heap.size < _; omega)).trans h.c0, (hb.cell (p := ⟨w.heap.size + 1, 0, none⟩) (by show w.heap.size + 1 < _; omega)).trans h.c1, (hb.frozen (p := ⟨w.heap.size + 1, 0, none⟩) (by show w.heap.size + 1 < _; omega)).trans h.f1,
    (hb.cell (p := ⟨w.heap.size + 1 + 1, 0, none⟩) l2).trans h.c2, (hb.frozen (p := ⟨w.heap.size + 1 + 1, 0, none⟩) l2).trans h.f2, h.t1.keep hb, h.t2.keep hb, own_keep h.own hb, fun b hb' => (h.rus b hb').keep hb⟩
theorem TcI.step {w W7 w6 : World} {sv ov v' : Value} {bs : List Nm} {b : Nm} (h : TcI w W7 sv ov bs) (hB : RuT W7 b.ru) (hown : w6.ownsRow (w.heap.size + 1 + 1 + 1) 50 6 v' (bs.length + 1) (flatN bs ++ b.cs)) (hgr : W7.grownBy w6 ov.ownBlock) :
    w6.cell? ⟨w.heap.size + 1 + 1, 0, none⟩ = some ov ∧ w6.frozen? ⟨w.heap.size + 1 + 1, 0, none⟩ = false ∧ TcI w (w6.setCell ⟨w.heap.size + 1 + 1, 0, none⟩ v') sv v' (bs ++ [b]) := by
  have lt := fun q e => (h.own.lt q e).1
  have l2 := h.t2.lt
  have ne : ∀ q, q < w.heap.size + 1 + 1 + 1 → some q ≠ ov.ownBlock := fun q hq e => by have := lt q e.symm; omega
  have ty := fun q (e : ov.ownBlock = some q) => own_ty h.own e
  have b6 : Below w.heap.size w w6 := h.below.grown hgr h.below.size (fun q e => by have := lt q e; omega)
  have t1 := h.t1.grown hgr (ne _ (by omega))
  have t2 := h.t2.grown hgr (ne _ (by omega))
  have gs := grown_set w6 (w.heap.size + 1 + 1) 0 v'
  have cl := fun q (hq : q < w.heap.size + 1 + 1 + 1) => hgr.block q (by omega) (ne q hq)
  have e0 := cl w.heap.size (by omega)
  have e1 := cl (w.heap.size + 1) (by omega)
  have e2 := cl (w.heap.size + 1 + 1) (by omega)
  have k2 := (World.cell?_of_block (a := ⟨w.heap.size + 1 + 1, 0, none⟩) e2).trans h.c2
  have z2 := (World.frozen?_of_block (a := ⟨w.heap.size + 1 + 1, 0, none⟩) e2).trans h.f2
  refine ⟨k2, z2, b6.setCell (p := ⟨w.heap.size + 1 + 1, 0, none⟩) (by show w.heap.size ≤ w.heap.size + 1 + 1; omega) _, (cell_far (addr_blk (by omega))).trans ((World.cell?_of_block (a := ⟨w.heap.size, 0, none⟩) e0).trans h.c0),
    (cell_far (addr_blk (by omega))).trans ((World.cell?_of_block (a := ⟨w.heap.size + 1, 0, none⟩) e1).trans h.c1), (World.frozen?_setCell _ _ _ _).trans ((World.frozen?_of_block (a := ⟨w.heap.size + 1, 0, none⟩) e1).trans h.f1),
    set_here k2, (World.frozen?_setCell _ _ _ _).trans z2, t1.set (by omega), TyB.setSame t2, ?_, ?_⟩
  · rw [List.length_append, flatN_snoc]
    exact hown.kept gs (by
      cases hv : v'.ownBlock with
      | none => exact .inl rfl
      | some q => exact .inr (fun e => by have := (hown.lt q hv).1; have e2 := Option.some.inj e; omega))
  · intro c hc
    have h7 : RuT W7 c.ru := by
      rcases List.mem_append.1 hc with h8 | h8
      · exact h.rus c h8
      · obtain rfl := List.mem_singleton.1 h8; exact hB
    exact (h7.grown hgr (fun k e => ⟨_, by decide, by decide, by decide, by decide, ty k e⟩)).grown gs (fun k e => by cases e; exact ⟨_, by decide, by decide, by decide, by decide, t2⟩)
end
section
open Go.RowKit

theorem undrewT {w w' : World} (h : Below w.drew.heap.size w.drew w') : Below w.heap.size w w' := (Below.refl w.heap.size w).trans ⟨h.os, h.tape, h.output, h.size, h.block⟩
/-- Copy of a rule, its cells apart. -/
def CpyX (x : Ru) (W : World) : Prop := Calls Tryd.prog 9 #[.agg #[.slice x.ad x.n x.cap, .slice x.si.ad x.si.n x.si.cap, .slice x.sd.ad x.sd.n x.sd.cap, .bool x.mi, .bool x.md]] W fun (_e : Ending) (_w : World) =>
  ∃ (ya : Option Addr) (yn yc : Nat) (yl : List An) (sa : Option Addr) (sn sc : Nat) (sl : List (ByteArray × ByteArray)) (da : Option Addr) (dn dc : Nat) (dl : List (ByteArray × ByteArray)) (mi md : Bool),
    _e = .returned (.agg #[.slice ya yn yc, .slice sa sn sc, .slice da dn dc, .bool mi, .bool md]) ∧ Below W.heap.size W _w ∧ RuC x ⟨ya, yn, yc, yl, ⟨sa, sn, sc, sl⟩, ⟨da, dn, dc, dl⟩, mi, md⟩ ∧ RuT _w ⟨ya, yn, yc, yl, ⟨sa, sn, sc, sl⟩, ⟨da, dn, dc, dl⟩, mi, md⟩
theorem cpyx (x : Ru) (W : World) (h : RuG W x) : CpyX x W :=
  (rcopy_any x W h).mono fun _e _w ⟨y, he, hb, _, hc, ht⟩ => ⟨y.ad, y.n, y.cap, y.l, y.si.ad, y.si.n, y.si.cap, y.si.l, y.sd.ad, y.sd.n, y.sd.cap, y.sd.l, y.mi, y.md, he, hb, hc, ht⟩
theorem three_sets (w : World) (v : Value) (t : TypeId) (W3 : World) (hW : W3 = ((w.alloc (.cells #[v] t)).alloc (.cells #[.slice none 0 0] t)).alloc (.cells #[.slice none 0 0] t)) :
    Below w.heap.size w W3 ∧ W3.heap.size = w.heap.size + 1 + 1 + 1 ∧ W3.cell? ⟨w.heap.size, 0, none⟩ = some v ∧ W3.cell? ⟨w.heap.size + 1, 0, none⟩ = some (.slice none 0 0) ∧ W3.frozen? ⟨w.heap.size + 1, 0, none⟩ = false ∧ W3.cell? ⟨w.heap.size + 1 + 1, 0, none⟩ = some (.slice none 0 0) ∧
      W3.frozen? ⟨w.heap.size + 1 + 1, 0, none⟩ = false ∧ TyB W3 (w.heap.size + 1) t ∧ TyB W3 (w.heap.size + 1 + 1) t := by
  obtain ⟨w1, h1⟩ : ∃ w1, w1 = w.alloc (.cells #[v] t) := ⟨_, rfl⟩
  obtain ⟨w2, h2⟩ : ∃ w2, w2 = w1.alloc (.cells #[.slice none 0 0] t) := ⟨_, rfl⟩
  rw [← h1, ← h2] at hW
  have s1 : w1.heap.size = w.heap.size + 1 := by rw [h1]; simp
  have s2 : w2.heap.size = w.heap.size + 1 + 1 := by rw [h2]; simp [s1]
  have s3 : W3.heap.size = w.heap.size + 1 + 1 + 1 := by rw [hW]; simp [s2]
  have b1 : Below w.heap.size w w1 := by rw [h1]; exact (Below.refl _ _).alloc (Nat.le_refl _) _
  have b2 : Below w1.heap.size w1 w2 := by rw [h2]; exact (Below.refl _ _).alloc (Nat.le_refl _) _
  have b3 : Below w2.heap.size w2 W3 := by rw [hW]; exact (Below.refl _ _).alloc (Nat.le_refl _) _
  have b12 := b2.trans (b3.mono b2.size)
  have c0 : w1.cell? ⟨w.heap.size, 0, none⟩ = some v := by rw [h1]; simp
  have c1 : w2.cell? ⟨w.heap.size + 1, 0, none⟩ = some (.slice none 0 0) := by rw [h2, ← s1]; simp
  have f1 : w2.frozen? ⟨w.heap.size + 1, 0, none⟩ = false := by rw [h2, ← s1]; simp
  have t1 := TyB.new w1 #[.slice none 0 0] t
  rw [← h2, s1] at t1
  have t2 := TyB.new w2 #[.slice none 0 0] t
  rw [← hW, s2] at t2
  exact ⟨b1.trans (b12.mono b1.size), s3, (b12.cell (p := ⟨w.heap.size, 0, none⟩) (by show w.heap.size < _; omega)).trans c0, (b3.cell (p := ⟨w.heap.size + 1, 0, none⟩) (by show w.heap.size + 1 < _; omega)).trans c1, (b3.frozen (p := ⟨w.heap.size + 1, 0, none⟩) (by show w.heap.size + 1 < _; omega)).trans f1,
    by rw [hW, ← s2]; simp, by rw [hW, ← s2]; simp, t1.keep b3, t2⟩

/-- The load of what was appended to so far: written as a name, for the walk below. -/
def ldO : Oper := { dst := some 14, op := Op.load 43 (Operand.tmp 13), type := 43, pos := "ref.go:281", after := #[{ on := 0, ground := Ground.data }], guard := none }
set_option maxHeartbeats 4000000 in
set_option maxRecDepth 100000 in
theorem tcopy_any (ad : Option Addr) (n cap : Nat) (l : List Nm) (w : World) (hS : SetG w ad n l) : Calls Tryd.prog 28 #[.agg #[.slice ad n cap]] w fun e w' => ∃ (v : Value) (l' : List Nm), e = .returned (.agg #[v]) ∧ Below w.heap.size w w' ∧ w'.ownsRow (w.heap.size + 1 + 1 + 1) 50 6 v n (flatN l') ∧ (∀ b ∈ l', RuT w' b.ru) ∧ l'.length = n ∧ ∀ k, k < n → NmC (l.getD k Nm.nil) (l'.getD k Nm.nil) := by
  have K := three_sets w (.slice ad n cap) 45 _ rfl
  obtain ⟨W3, hW3⟩ : ∃ W3, W3 = ((w.alloc (.cells #[.slice ad n cap] 45)).alloc (.cells #[.slice none 0 0] 45)).alloc (.cells #[.slice none 0 0] 45) := ⟨_, rfl⟩
  rw [← hW3] at K
  obtain ⟨kB, kz, k0, k1, kf, k2, kg, kt, ku⟩ := K
  have HI : Hid (TcI w W3 (.slice ad n cap) (.slice none 0 0) []) := Lib.hid ⟨kB, k0, k1, kf, k2, kg, kt, ku, World.ownsRow_nil _ _ _ _, (fun b hb => absurd hb (List.not_mem_nil))⟩
  have HS := Lib.hid hS
  have hm := hS.most
  have hlen := hS.len
  clear hS kB kz k0 k1 kf k2 kg kt ku
  go_enter Tryd.func28, Tryd.ntmps28
  go_wp2_with fail
  rw [← hW3]
  clear hW3
  go_loopg [4] n (fun g s4 wr => ∃ (k : Nat) (ov : Value) (bs : List Nm), k + g = n ∧ s4 = .int .i64 k ∧ Aside (TcI w wr (.slice ad n cap) ov bs) ∧ Aside (bs.length = k) ∧ Aside (∀ j, j < k → NmC (l.getD j Nm.nil) (bs.getD j Nm.nil)))
  case atStart => exact ⟨0, _, [], by omega, rfl, HI.out, rfl, fun j hj => absurd hj (Nat.not_lt_zero j)⟩
  case round =>
    obtain ⟨k, ov, bs, hk, rfl, HC, HL, HN⟩ := hrel
    have c0 := HC.out.c0
    have c1 := HC.out.c1
    have f1 := HC.out.f1
    have c2 := HC.out.c2
    have f2 := HC.out.f2
    cases gk with
    | zero =>
      have hkz : ¬ ((k : Int) < (n : Int)) := by omega
      obtain ⟨oad, ocap, rfl⟩ : ∃ oad ocap, ov = .slice oad n ocap := by
        have hkn : bs.length = n := by have := HL.out; omega
        rcases HC.out.own.2 with ⟨h1, h2⟩ | ⟨g, c, cur, h1, -⟩
        · exact ⟨none, 0, by rw [h1, ← hkn, h2]⟩
        · exact ⟨_, c, by rw [h1, hkn]⟩
      have gs := grown_set wr (w.heap.size + 1) 0 (.slice oad n ocap)
      have hT : ∀ b ∈ bs, RuT (wr.setCell ⟨w.heap.size + 1, 0, none⟩ (.slice oad n ocap)) b.ru := fun b hb => (HC.out.rus b hb).grown gs (fun k e => by cases e; exact ⟨_, by decide, by decide, by decide, by decide, HC.out.t1⟩)
      have hO : (wr.setCell ⟨w.heap.size + 1, 0, none⟩ (.slice oad n ocap)).ownsRow (w.heap.size + 1 + 1 + 1) 50 6 (.slice oad n ocap) bs.length (flatN bs) := HC.out.own.kept gs (by
        cases hv : (Value.slice oad n ocap).ownBlock with
        | none => exact .inl rfl
        | some q => exact .inr (fun e => by have := (HC.out.own.lt q hv).1; have e2 := Option.some.inj e; omega))
      have hB : Below w.heap.size w (wr.setCell ⟨w.heap.size + 1, 0, none⟩ (.slice oad n ocap)) := HC.out.below.setCell (p := ⟨w.heap.size + 1, 0, none⟩) (by show w.heap.size ≤ w.heap.size + 1; omega) _
      have d0 : (wr.setCell ⟨w.heap.size + 1, 0, none⟩ (.slice oad n ocap)).cell? ⟨w.heap.size + 1, 0, none⟩ = some (.slice oad n ocap) := set_here c1
      have HT := Lib.hid hT
      have HO := Lib.hid hO
      have HB := Lib.hid hB
      clear hT hO hB gs
      go_wp2
      refine bodyPost_ret (v := .agg #[.slice oad n ocap]) (by simp [results, Tryd.results28, go_sem, d0]) rfl ?_
      have hkn : bs.length = n := by have := HL.out; omega
      have HO2 := HO.out
      rw [hkn] at HO2
      exact ⟨_, rfl, HB.out, bs, HO2, HT.out, by have := HL.out; omega, fun j hj => HN.out j (by omega)⟩
    | succ g =>
      have hkz : ((k : Int) < (n : Int)) := by omega
      obtain ⟨gb, off, had, hgb, hA⟩ := HS.out.at_ (by omega)
      have hR := hA k (by omega)
      obtain ⟨x, hx⟩ : ∃ x, x = l.getD k Nm.nil := ⟨_, rfl⟩
      rw [← hx] at hR
      have HXX := Lib.hid hx
      have hR2 := hR.keep HC.out.below hgb
      have hgw : gb < wr.heap.size := Nat.lt_of_lt_of_le hgb HC.out.below.size
      have D := Lib.hid (fun wx (hx : Below wr.heap.size wr wx) => cpyx x.ru wx (hR2.ru.keep hx))
      unfold CpyX at D
      obtain ⟨q0, q1, q2, q3, q4, q5, -⟩ := hR2
      clear hA hx hR
      subst had
      obtain ⟨cat, ⟨xa, xn, xc, xl, ⟨s1, n1, cc1, l1⟩, ⟨s2, n2, cc2, l2⟩, mi, md⟩⟩ := x
      unfold Sg.v at q2 q3
      simp only at *
      go_wp2_with fail
      obtain ⟨i0, hi, hz0, hz1, hz2⟩ := info_parts nm_info
      have hld : ldO = { dst := some 14, op := Op.load 43 (Operand.tmp 13), type := 43, pos := "ref.go:281", after := #[{ on := 0, ground := Ground.data }], guard := none } := rfl
      rw [← hld]
      go_region_held3 (fun w' => w'.cell? ⟨w.heap.size, 0, none⟩ = some (.slice (some ⟨gb, off, none⟩) n cap) ∧ (w'.cell? ⟨gb, off + k * 6, none⟩ = some (.int .i64 cat) ∧ w'.cell? ⟨gb, off + k * 6 + 1, none⟩ = some (.slice xa xn xc) ∧ w'.cell? ⟨gb, off + k * 6 + 2, none⟩ = some (.slice s1 n1 cc1) ∧ w'.cell? ⟨gb, off + k * 6 + 3, none⟩ = some (.slice s2 n2 cc2) ∧ w'.cell? ⟨gb, off + k * 6 + 4, none⟩ = some (.bool mi) ∧ w'.cell? ⟨gb, off + k * 6 + 5, none⟩ = some (.bool md)))
        (first
          | exact ⟨c0, q0, q1, q2, q3, q4, q5⟩
          | exact ⟨r0, p0, p1, p2, p3, p4, p5⟩
          | exact ⟨e0, x0, x1, x2, x3, x4, x5⟩
          | exact ⟨(cell_far (addr_blk (by omega))).trans e0, (cell_far (addr_blk (by omega))).trans x0, (cell_far (addr_blk (by omega))).trans x1, (cell_far (addr_blk (by omega))).trans x2, (cell_far (addr_blk (by omega))).trans x3, (cell_far (addr_blk (by omega))).trans x4, (cell_far (addr_blk (by omega))).trans x5⟩
          | go_keep)
        (first
          | (go_at_call 9; (with_reducible refine (D.out _ (Below.refl wr.heap.size wr).drew).mono ?_); rintro e w5 ⟨ya, yn, yc, yl, sa, sn, sc, sl, da, dn, dc, dl, ymi, ymd, rfl, hb5, hC5, hT5⟩
             have hb5' : Below wr.heap.size wr w5 := undrewT hb5
             have r0 := (HC.out.keep hb5').c0
             have r1 := (HC.out.keep hb5').c2
             have p0 := (hb5'.cell (p := ⟨gb, off + k * 6, none⟩) hgw).trans q0
             have p1 := (hb5'.cell (p := ⟨gb, off + k * 6 + 1, none⟩) hgw).trans q1
             have p2 := (hb5'.cell (p := ⟨gb, off + k * 6 + 2, none⟩) hgw).trans q2
             have p3 := (hb5'.cell (p := ⟨gb, off + k * 6 + 3, none⟩) hgw).trans q3
             have p4 := (hb5'.cell (p := ⟨gb, off + k * 6 + 4, none⟩) hgw).trans q4
             have p5 := (hb5'.cell (p := ⟨gb, off + k * 6 + 5, none⟩) hgw).trans q5
             have HC5 := Lib.hid (HC.out.keep hb5')
             have b7 : Below w5.heap.size w5 (w5.alloc (.cells #[.int .i64 cat, .slice ya yn yc, .slice sa sn sc, .slice da dn dc, .bool ymi, .bool ymd] 50)) := (Below.refl _ _).alloc (Nat.le_refl _) _
             have HC7 := Lib.hid (HC5.out.keep b7)
             have HT7 := Lib.hid (hT5.keep b7)
             have r7 := HC7.out.c2
             have HRC := Lib.hid hC5
             have z7 : w.heap.size + 1 + 1 + 1 ≤ w5.heap.size := by have := HC5.out.t2.lt; omega
             have B7 := Lib.hid b7
             have hgw5 : gb < w5.heap.size := Nat.lt_of_lt_of_le hgw hb5'.size
             clear hT5 hC5 hb5 hb5' b7)
          | (refine step_append_lies _ rfl _ _ 43 (by rfl) (w.heap.size + 1 + 1 + 1) 50 i0 _ 6 88 Tryd.underlying43 hi hz0 hz1 hz2 (by rfl) (by decide) ov bs.length (flatN bs) (by rfl) HC7.out.own ⟨w5.heap.size, 0, none⟩ 1 1 [.int .i64 cat, .slice ya yn yc, .slice sa sn sc, .slice da dn dc, .bool ymi, .bool ymd] (by rfl) (by rfl) ?_ ?_ (by decide) ?_ ?_ ?_ _ rfl ?_
             · intro j u hu
               have e : (⟨w5.heap.size, 0, none⟩ : Addr).add j = ⟨w5.heap.size, j, none⟩ := by unfold Addr.add; split <;> simp_all
               rw [e, fresh_atA]
               simpa using hu
             · intro u hu; simp only [List.mem_cons, List.not_mem_nil, or_false] at hu; rcases hu with rfl | rfl | rfl | rfl | rfl | rfl <;> rfl
             · have := HL.out; unfold maxLen; omega
             · have := HL.out; omega
             · have := HC7.out.t2.lt; omega
             intro g7 c7 w6 hown hgr _ _
             obtain ⟨s6, t6, HN6⟩ := HC7.out.step (b := ⟨cat, ⟨ya, yn, yc, yl, ⟨sa, sn, sc, sl⟩, ⟨da, dn, dc, dl⟩, ymi, ymd⟩⟩) HT7.out hown hgr
             have cl : ∀ q, q < w.heap.size + 1 + 1 + 1 → w6.heap[q]? = (w5.alloc (.cells #[.int .i64 cat, .slice ya yn yc, .slice sa sn sc, .slice da dn dc, .bool ymi, .bool ymd] 50)).heap[q]? := fun q hq =>
               hgr.block q (by have := HC7.out.t2.lt; omega) (fun e => by have := (HC7.out.own.lt _ e.symm).1; omega)
             have e0 := (World.cell?_of_block (a := ⟨w.heap.size, 0, none⟩) (cl w.heap.size (by omega))).trans HC7.out.c0
             have cg := cl gb (by omega)
             have x0 := (World.cell?_of_block (a := ⟨gb, off + k * 6, none⟩) cg).trans ((B7.out.cell (p := ⟨gb, off + k * 6, none⟩) hgw5).trans p0)
             have x1 := (World.cell?_of_block (a := ⟨gb, off + k * 6 + 1, none⟩) cg).trans ((B7.out.cell (p := ⟨gb, off + k * 6 + 1, none⟩) hgw5).trans p1)
             have x2 := (World.cell?_of_block (a := ⟨gb, off + k * 6 + 2, none⟩) cg).trans ((B7.out.cell (p := ⟨gb, off + k * 6 + 2, none⟩) hgw5).trans p2)
             have x3 := (World.cell?_of_block (a := ⟨gb, off + k * 6 + 3, none⟩) cg).trans ((B7.out.cell (p := ⟨gb, off + k * 6 + 3, none⟩) hgw5).trans p3)
             have x4 := (World.cell?_of_block (a := ⟨gb, off + k * 6 + 4, none⟩) cg).trans ((B7.out.cell (p := ⟨gb, off + k * 6 + 4, none⟩) hgw5).trans p4)
             have x5 := (World.cell?_of_block (a := ⟨gb, off + k * 6 + 5, none⟩) cg).trans ((B7.out.cell (p := ⟨gb, off + k * 6 + 5, none⟩) hgw5).trans p5)))
      all_goals
        have hL2 : (bs ++ [(⟨cat, ⟨ya, yn, yc, yl, ⟨sa, sn, sc, sl⟩, ⟨da, dn, dc, dl⟩, ymi, ymd⟩⟩ : Nm)]).length = k + 1 := by rw [List.length_append, HL.out]; rfl
        have HL2 := Lib.hid hL2
        have HN6' := Lib.hid HN6
        have HNN : Hid (∀ j, j < k + 1 → NmC (l.getD j Nm.nil) ((bs ++ [(⟨cat, ⟨ya, yn, yc, yl, ⟨sa, sn, sc, sl⟩, ⟨da, dn, dc, dl⟩, ymi, ymd⟩⟩ : Nm)]).getD j Nm.nil)) := Lib.hid (fun j hj => by
          by_cases hjk : j < k
          · have e : (bs ++ [(⟨cat, ⟨ya, yn, yc, yl, ⟨sa, sn, sc, sl⟩, ⟨da, dn, dc, dl⟩, ymi, ymd⟩⟩ : Nm)]).getD j Nm.nil = bs.getD j Nm.nil := by
              rw [List.getD_eq_getElem?_getD, List.getElem?_append_left (by have := HL.out; omega), ← List.getD_eq_getElem?_getD]
            rw [e]
            exact HN.out j hjk
          · have hjk : j = k := by omega
            subst hjk
            rw [← HXX.out, List.getD_eq_getElem?_getD, List.getElem?_append_right (by have := HL.out; omega), show j - bs.length = 0 by have := HL.out; omega]
            exact ⟨rfl, HRC.out⟩)
        clear hL2 HN6 hown hgr s6 t6 e0 cg cl x0 x1 x2 x3 x4 x5
        go_wp2
        go_roundg g
        case measure => omega
        case rel => exact ⟨k + 1, _, _, by omega, by go_num, HN6'.out, HL2.out, HNN.out⟩
end
section
open Go.RowKit

theorem set_done {W W0 : World} {B : Nat} {v : Value} {l bs : List Nm} {ad : Option Addr} {n : Nat} (hown : W.ownsRow B 50 6 v n (flatN bs)) (hT : ∀ b ∈ bs, RuT W b.ru) (hl : bs.length = n) (hC : ∀ k, k < n → NmC (l.getD k Nm.nil) (bs.getD k Nm.nil)) (hx : SetG W0 ad n l) :
    ∃ oad ocap, v = .slice oad n ocap ∧ n ≤ ocap ∧ SetG W oad n bs ∧ (∀ x ∈ bs, x.ru.F) ∧ SetC l bs := by
  have hS : SetC l bs := ⟨by rw [hl, hx.len], fun k hk => hC k (by rw [← hx.len]; exact hk)⟩
  have each : ∀ k, k < n → RuG W (bs.getD k Nm.nil).ru := fun k hk => by
    obtain ⟨g0, o0, -, -, hR⟩ := hx.at_ (by omega)
    exact (hT _ (getD_memC Nm.nil (by omega))).ru (hC k hk).2 (hR k hk).ru
  have hF : ∀ x ∈ bs, x.ru.F := fun x hx2 => by
    obtain ⟨k, hk, rfl⟩ := List.getElem_of_mem hx2
    have := (hC k (by omega)).2.fine
    rwa [getD_atC Nm.nil hk] at this
  rcases hown.2 with ⟨rfl, h0⟩ | ⟨g, cap, cur, h1, h2, h3, h4, h5, h6⟩
  · exact ⟨none, 0, by rw [h0], by omega, ⟨hl, hx.most, fun hn => absurd h0 hn⟩, hF, hS⟩
  · have ho := hown
    rw [h1] at ho
    refine ⟨some ⟨g, 0, none⟩, cap, by rw [h1], by omega, ⟨hl, hx.most, fun _ => ⟨g, 0, rfl, (Array.getElem?_eq_some_iff.1 h3).1, fun k hk => ?_⟩⟩, hF, hS⟩
    have c : ∀ i, i < 6 → W.cell? ⟨g, k * 6 + i, none⟩ = (bs.getD k Nm.nil).cs[i]? := fun i hi => by
      rw [ho.cellAt (k * 6 + i) (by omega), flatN_at bs k i (by omega) hi]
    rw [Nat.zero_add]
    exact ⟨c 0 (by decide), c 1 (by decide), c 2 (by decide), c 3 (by decide), c 4 (by decide), c 5 (by decide), each k hk⟩
theorem tcopy_set (ad : Option Addr) (n cap : Nat) (l : List Nm) (w : World) (hS : SetG w ad n l) : Calls Tryd.prog 28 #[.agg #[.slice ad n cap]] w fun e w' =>
    ∃ (oad : Option Addr) (ocap : Nat) (bs : List Nm), e = .returned (.agg #[.slice oad n ocap]) ∧ Below w.heap.size w w' ∧ n ≤ ocap ∧ SetG w' oad n bs ∧ (∀ x ∈ bs, x.ru.F) ∧ SetC l bs :=
  (tcopy_any ad n cap l w hS).mono fun _e _w ⟨v, bs, he, hb, ho, hT, hl, hC⟩ => by
    obtain ⟨oad, ocap, rfl, h1, h2, h3, h4⟩ := set_done ho hT hl hC hS
    exact ⟨oad, ocap, bs, he, hb, h1, h2, h3, h4⟩
theorem two_sets (w : World) (v : Value) (t : TypeId) (W3 : World) (hW : W3 = (w.alloc (.cells #[v] t)).alloc (.cells #[.slice none 0 0] t)) :
    Below w.heap.size w W3 ∧ W3.heap.size = w.heap.size + 1 + 1 ∧ W3.cell? ⟨w.heap.size, 0, none⟩ = some v ∧ W3.cell? ⟨w.heap.size + 1, 0, none⟩ = some (.slice none 0 0) ∧ W3.frozen? ⟨w.heap.size + 1, 0, none⟩ = false ∧ TyB W3 (w.heap.size + 1) t := by
  obtain ⟨w1, h1⟩ : ∃ w1, w1 = w.alloc (.cells #[v] t) := ⟨_, rfl⟩
  rw [← h1] at hW
  have s1 : w1.heap.size = w.heap.size + 1 := by rw [h1]; simp
  have s2 : W3.heap.size = w.heap.size + 1 + 1 := by rw [hW]; simp [s1]
  have b1 : Below w.heap.size w w1 := by rw [h1]; exact (Below.refl _ _).alloc (Nat.le_refl _) _
  have b2 : Below w1.heap.size w1 W3 := by rw [hW]; exact (Below.refl _ _).alloc (Nat.le_refl _) _
  have c0 : w1.cell? ⟨w.heap.size, 0, none⟩ = some v := by rw [h1]; simp
  have t1 := TyB.new w1 #[.slice none 0 0] t
  rw [← hW, s1] at t1
  exact ⟨b1.trans (b2.mono b1.size), s2, (b2.cell (p := ⟨w.heap.size, 0, none⟩) (by show w.heap.size < _; omega)).trans c0, by rw [hW, ← s1]; simp, by rw [hW, ← s1]; simp, t1⟩
/-- A copied set behind a store into a box of the caller's. -/
theorem set_after {W1 w2 : World} {q B : Nat} {ov : Value} {n : Nat} {l bs : List Nm} {W0 : World} {ad : Option Addr} (h1 : TyB W1 q 45) (hb : Below W1.heap.size W1 w2) (hB : q < B) (ho : w2.ownsRow B 50 6 ov n (flatN bs)) (hT : ∀ b ∈ bs, RuT w2 b.ru) (hl : bs.length = n) (hC : ∀ k, k < n → NmC (l.getD k Nm.nil) (bs.getD k Nm.nil)) (hx : SetG W0 ad n l) :
    ∃ oad ocap, ov = .slice oad n ocap ∧ n ≤ ocap ∧ SetG (w2.setCell ⟨q, 0, none⟩ ov) oad n bs ∧ (∀ x ∈ bs, x.ru.F) ∧ SetC l bs := by
  have t2 := h1.keep hb
  have gs := grown_set w2 q 0 ov
  have hT' : ∀ b ∈ bs, RuT (w2.setCell ⟨q, 0, none⟩ ov) b.ru := fun b hb => (hT b hb).grown gs (fun k e => by cases e; exact ⟨_, by decide, by decide, by decide, by decide, t2⟩)
  have hO := ho.kept gs (by
    cases hv : ov.ownBlock with
    | none => exact .inl rfl
    | some k => exact .inr (fun e => by have := (ho.lt k hv).1; have e2 := Option.some.inj e; omega))
  exact set_done hO hT' hl hC hx
set_option maxHeartbeats 2000000 in
set_option maxRecDepth 100000 in
/-- The laws' own Copy. -/
theorem lcopy_set (ad : Option Addr) (n cap : Nat) (l : List Nm) (w : World) (hS : SetG w ad n l) : Calls Tryd.prog 12 #[.agg #[.slice ad n cap]] w fun e w' =>
    ∃ (oad : Option Addr) (ocap : Nat) (bs : List Nm), e = .returned (.agg #[.slice oad n ocap]) ∧ Below w.heap.size w w' ∧ n ≤ ocap ∧ SetG w' oad n bs ∧ (∀ x ∈ bs, x.ru.F) ∧ SetC l bs := by
  have K := two_sets w (.slice ad n cap) 45 _ rfl
  obtain ⟨W3, hW3⟩ : ∃ W3, W3 = (w.alloc (.cells #[.slice ad n cap] 45)).alloc (.cells #[.slice none 0 0] 45) := ⟨_, rfl⟩
  rw [← hW3] at K
  obtain ⟨kB, kz, k0, k1, kf, kt⟩ := K
  have D := Lib.hid (tcopy_any ad n cap l W3 (hS.keep kB))
  have HS := Lib.hid hS
  have HB := Lib.hid kB
  have HT := Lib.hid kt
  have HZ := Lib.hid kz
  have H1 := Lib.hid k1
  have HF := Lib.hid kf
  clear hS kB kt kz k1 kf
  go_enter Tryd.func12, Tryd.ntmps12
  go_wp2_with fail
  rw [← hW3]
  clear hW3
  (with_reducible refine D.out.mono ?_)
  rintro e w2 ⟨ov, bs, rfl, hb2, ho, hT, hl, hC⟩
  have hz := HZ.out
  obtain ⟨oad, ocap, rfl, hc, hSG, hF, hSC⟩ := set_after (q := w.heap.size + 1) HT.out hb2 (by omega) ho hT hl hC HS.out
  have c1 := (hb2.cell (p := ⟨w.heap.size + 1, 0, none⟩) (by show w.heap.size + 1 < _; omega)).trans H1.out
  have f1 := (hb2.frozen (p := ⟨w.heap.size + 1, 0, none⟩) (by show w.heap.size + 1 < _; omega)).trans HF.out
  have d1 : (w2.setCell ⟨w.heap.size + 1, 0, none⟩ (.slice oad n ocap)).cell? ⟨w.heap.size + 1, 0, none⟩ = some (.slice oad n ocap) := set_here c1
  have HBB := Lib.hid ((HB.out.trans (hb2.mono HB.out.size)).setCell (p := ⟨w.heap.size + 1, 0, none⟩) (by show w.heap.size ≤ w.heap.size + 1; omega) (.slice oad n ocap))
  have HSG := Lib.hid hSG
  clear hSG ho hT hb2 hz k0
  go_wp2
  refine bodyPost_ret (v := .agg #[.slice oad n ocap]) (by simp [results, Tryd.results12, go_sem, d1]) rfl ?_
  exact ⟨oad, ocap, bs, rfl, HBB.out, hc, HSG.out, hF, hSC⟩
end
end Go.Proofs.YtmggdnnffdaffaaDoor
