/- Merged: LawLsA, LawLsB. -/
import Derived.Test.YtmggdnnffdaffaaDoorClM
import Derived.Test.YtmggdnnffdaffaaDoorMkF
namespace Go.Proofs.YtmggdnnffdaffaaDoor
section
open Go.RowKit

/-- A rule of one relation. -/
def oneR (g1 g2 : Nat) (r : Rl) : Ru := ⟨some ⟨g2, 0, none⟩, 1, 1, [⟨some ⟨g1, 0, none⟩, 1, 1, [r]⟩], ⟨none, 0, 0, []⟩, ⟨none, 0, 0, []⟩, false, false⟩
/-- A rule of one list of relations. -/
def aloR (g o c : Nat) (a : An) : Ru := ⟨some ⟨g, o, none⟩, 1, c, [a], ⟨none, 0, 0, []⟩, ⟨none, 0, 0, []⟩, false, false⟩
theorem ls_nil (W : World) : SpnG W none 0 [] := ⟨rfl, by decide, fun h => absurd rfl h, fun k => ⟨by show (0 : Nat) ≤ _; omega, by show (0 : Nat) ≤ _; omega⟩⟩
theorem one_ru {W W1 W2 : World} {r : Rl} {g o : Nat} {t1 t2 : TypeId} (hr : RelAt W g o r) (h1 : W1 = W.alloc (.cells #[.string r.op, .string r.mo, .bool r.no, .bool r.wi, .slice r.ad r.n r.cap] t1))
    (h2 : W2 = W1.alloc (.cells #[.slice (some ⟨W.heap.size, 0, none⟩) 1 1] t2)) : Below W.heap.size W W2 ∧ RuG W2 (oneR W.heap.size (W.heap.size + 1) r) := by
  have s1 : W1.heap.size = W.heap.size + 1 := by rw [h1]; simp
  have s2 : W2.heap.size = W.heap.size + 1 + 1 := by rw [h2]; simp [s1]
  have b1 : Below W.heap.size W W1 := by rw [h1]; exact (Below.refl _ _).alloc (Nat.le_refl _) _
  have b2 : Below W1.heap.size W1 W2 := by rw [h2]; exact (Below.refl _ _).alloc (Nat.le_refl _) _
  have b := b1.trans (b2.mono b1.size)
  have x := bq5_new W (.string r.op) (.string r.mo) (.bool r.no) (.bool r.wi) (.slice r.ad r.n r.cap) t1
  rw [← h1] at x
  have x2 := x.keep b2
  have c : W2.cell? ⟨W.heap.size + 1, 0, none⟩ = some (.slice (some ⟨W.heap.size, 0, none⟩) 1 1) := by rw [h2, ← s1]; simp
  refine ⟨b, ⟨⟨rfl, by show (1 : Nat) * 24 ≤ _; omega, fun _ => ⟨W.heap.size + 1, 0, rfl, by omega, fun k hk => ?_⟩⟩, ls_nil _, ls_nil _⟩⟩
  obtain rfl : k = 0 := by have : k < 1 := hk; omega
  refine ⟨c, rfl, by show (1 : Nat) * 64 ≤ _; omega, fun _ => ⟨W.heap.size, 0, rfl, by omega, fun j hj => ?_⟩⟩
  obtain rfl : j = 0 := by have : j < 1 := hj; omega
  exact ⟨x2.c0, x2.c1, x2.c2, x2.c3, x2.c4, hr.li.keep b, hr.ms⟩
theorem one_ck {g1 g2 : Nat} {r : Rl} (h : relE r = 0) : ckT (oneR g1 g2 r) = 0 :=
  ck_alone (a := ⟨some ⟨g1, 0, none⟩, 1, 1, [r]⟩) _ rfl (by show (1 : Nat) ≠ 0; decide) (by show (1 : Nat) ≤ 64; decide) (fun x hx => by
    obtain rfl := List.mem_singleton.1 hx
    exact h) rfl rfl rfl rfl
theorem one_hold {p : Dc} {E : Nat} {g1 g2 : Nat} {r : Rl} : holdN (hitR p E) ⟨0, oneR g1 g2 r⟩ = hitR p E r := by
  rw [hold_alone (a := ⟨some ⟨g1, 0, none⟩, 1, 1, [r]⟩) 0 (oneR g1 g2 r) rfl rfl]
  show (hitR p E r && true) = _
  rw [Bool.and_true]
/-- What was copied of a rule of one relation. -/
theorem one_copy {W : World} {g1 g2 : Nat} {r : Rl} {y : Ru} (h : RuC (oneR g1 g2 r) y) (hY : RuG W y) :
    ∃ (g off cap g' off' cap' : Nat) (r' : Rl), y.ad = some ⟨g, off, none⟩ ∧ y.n = 1 ∧ y.cap = cap ∧ g < W.heap.size ∧ g' < W.heap.size ∧ W.cell? ⟨g, off, none⟩ = some (.slice (some ⟨g', off', none⟩) 1 cap') ∧ RelAt W g' off' r' ∧ r'.e = r.e ∧ r'.F := by
  have hn : y.n = 1 := h.n
  obtain ⟨g, off, e1, e2, e3⟩ := hY.or.at_ (by omega)
  obtain ⟨c0, hA⟩ := e3 0 (by omega)
  have hl : y.l.length = 1 := by rw [hY.or.len, hn]
  obtain ⟨a, hl⟩ : ∃ a, y.l = [a] := by
    match hy : y.l, hl with
    | [a], _ => exact ⟨a, rfl⟩
  rw [hl] at c0 hA
  have he := h.or
  rw [hl] at he
  change [An.e a] = [((1 : Nat), [r.e])] at he
  simp only [List.cons.injEq, and_true] at he
  unfold An.e at he
  simp only [Prod.mk.injEq] at he
  obtain ⟨an, al⟩ := he
  change W.cell? ⟨g, off + 0, none⟩ = some a.v at c0
  change AndG W a.ad a.n a.l at hA
  have al1 : a.l.length = 1 := by
    have := congrArg List.length al
    rw [List.length_map] at this
    exact this
  obtain ⟨r', hr'⟩ : ∃ r', a.l = [r'] := by
    match ha : a.l, al1 with
    | [r'], _ => exact ⟨r', rfl⟩
  rw [hr'] at al hA
  simp only [List.map_cons, List.map_nil, List.cons.injEq, and_true] at al
  obtain ⟨g', off', f1, f2, f3⟩ := hA.at_ (by omega)
  have hR := f3 0 (by omega)
  unfold An.v at c0
  rw [an, f1] at c0
  refine ⟨g, off, y.cap, g', off', a.cap, r', e1, hn, rfl, e2, f2, by rw [Nat.add_zero] at c0; exact c0, ?_, al, ?_⟩
  · simpa using hR
  · exact h.fine a (by rw [hl]; exact List.mem_singleton.2 rfl) r' (by rw [hr']; exact List.mem_singleton.2 rfl)
theorem alo_ru {W : World} {x : Ru} (hX : RuG W x) {i g off : Nat} (hi : i < x.n) (had : x.ad = some ⟨g, off, none⟩) (c : Nat) : RuG W (aloR g (off + i) c (x.l.getD i An.nil)) := by
  refine ⟨⟨rfl, by show (1 : Nat) * 24 ≤ _; omega, fun _ => ?_⟩, ls_nil _, ls_nil _⟩
  obtain ⟨g0, o0, e1, e2, e3⟩ := hX.or.at_ (by omega)
  have e0 := had.symm.trans e1
  have := Option.some.inj e0
  obtain ⟨rfl, rfl⟩ : g = g0 ∧ off = o0 := ⟨congrArg Addr.block this, congrArg Addr.off this⟩
  refine ⟨g, off + i, rfl, e2, fun k hk => ?_⟩
  obtain rfl : k = 0 := by have : k < 1 := hk; omega
  exact e3 i hi
theorem alo_ck {x : Ru} (h : ckT x = 0) {i : Nat} (hi : i < x.l.length) (g o c : Nat) : ckT (aloR g o c (x.l.getD i An.nil)) = 0 := by
  obtain ⟨h1, h2, h3⟩ := orE_each (by decide) (ckT_or x h) _ (getD_memC An.nil hi)
  exact ck_alone (a := x.l.getD i An.nil) _ rfl h1 h2 h3 rfl rfl rfl rfl
theorem alo_hold {p : Dc} {E : Nat} {g o c : Nat} {a : An} : holdN (hitR p E) ⟨0, aloR g o c a⟩ = a.l.all (hitR p E) := hold_alone (a := a) 0 _ rfl rfl
/-- In, of what was copied of a relation. -/
theorem in_copy {x : Dc} (hx : x.Ok) {E : Nat} (hE : E ≤ 40) {r r' : Rl} (he : r'.e = r.e) (hF : r'.F) (hr : relE r = 0) (wx : World) (hs : SpnG wx r'.ad r'.n r'.l) :
    Calls Tryd.prog 10 #[(ops9 (absX x) E).v, r'.v] wx fun e w' => e = .returned (.tuple #[.bool (hitR (absX x) E r), .int .i64 0]) ∧ Below wx.heap.size wx w' := by
  have K := in_set x hx E hE r' hF (by rw [relE_e he]; exact hr) wx hs
  rwa [hitR_e he] at K
theorem Holds_copy {x : Dc} (hx : x.Ok) {E : Nat} (hE : E ≤ 40) {z y : Ru} (hC : RuC z y) (W : World) (hY : RuG W y) :
    Calls Tryd.prog 8 #[y.v, (ops9 (absX x) E).v] W fun e w' => e = .returned (.tuple #[.bool (if ckT z = 0 then holdN (hitR (absX x) E) ⟨0, z⟩ else false), .int .i64 (ckT z)]) ∧ Below W.heap.size W w' := by
  have K := Holds_num x hx E hE y W hY hC.fine
  rwa [ckT_e hC, holdN_e 0 0 hC] at K
end
section
open Go.RowKit

/-- The boxes of a rule and a decimal. -/
structure LsI (w W : World) (r0 r1 r2 r3 r4 d0 d1 d2 : Value) : Prop where
  below : Below w.heap.size w W
  r : Bq5 W w.heap.size r0 r1 r2 r3 r4
  d0 : W.cell? ⟨w.heap.size + 1, 0, none⟩ = some d0
  d1 : W.cell? ⟨w.heap.size + 1, 1, none⟩ = some d1
  d2 : W.cell? ⟨w.heap.size + 1, 2, none⟩ = some d2
  lt : w.heap.size + 1 < W.heap.size
theorem LsI.keep {w W W' : World} {r0 r1 r2 r3 r4 d0 d1 d2 : Value} (h : LsI w W r0 r1 r2 r3 r4 d0 d1 d2) (hb : Below W.heap.size W W') : LsI w W' r0 r1 r2 r3 r4 d0 d1 d2 := by
  have l := h.lt
  exact ⟨h.below.trans (hb.mono h.below.size), h.r.keep hb,
    (hb.cell (p := ⟨w.heap.size + 1, 0, none⟩) l).trans h.d0, (hb.cell (p := ⟨w.heap.size + 1, 1, none⟩) l).trans h.d1, (hb.cell (p := ⟨w.heap.size + 1, 2, none⟩) l).trans h.d2, Nat.lt_of_lt_of_le l hb.size⟩
theorem ls_new (w W3 : World) (r0 r1 r2 r3 r4 d0 d1 d2 : Value) (t u : TypeId) (hW : W3 = (w.alloc (.cells #[r0, r1, r2, r3, r4] t)).alloc (.cells #[d0, d1, d2] u)) : LsI w W3 r0 r1 r2 r3 r4 d0 d1 d2 := by
  obtain ⟨w1, h1⟩ : ∃ w1, w1 = w.alloc (.cells #[r0, r1, r2, r3, r4] t) := ⟨_, rfl⟩
  rw [← h1] at hW
  have s1 : w1.heap.size = w.heap.size + 1 := by rw [h1]; simp
  have s2 : W3.heap.size = w.heap.size + 1 + 1 := by rw [hW]; simp [s1]
  have b1 : Below w.heap.size w w1 := by rw [h1]; exact (Below.refl _ _).alloc (Nat.le_refl _) _
  have b2 : Below w1.heap.size w1 W3 := by rw [hW]; exact (Below.refl _ _).alloc (Nat.le_refl _) _
  have x := bq5_new w r0 r1 r2 r3 r4 t
  rw [← h1] at x
  exact ⟨b1.trans (b2.mono b1.size), x.keep b2, by rw [hW, ← s1]; simp, by rw [hW, ← s1]; simp, by rw [hW, ← s1]; simp, by omega⟩
def CpyZ (x : Ru) (W : World) : Prop := Calls Tryd.prog 9 #[.agg #[.slice x.ad x.n x.cap, .slice x.si.ad x.si.n x.si.cap, .slice x.sd.ad x.sd.n x.sd.cap, .bool x.mi, .bool x.md]] W fun (_e : Ending) (_w : World) =>
  ∃ y : Ru, _e = .returned y.v ∧ Below W.heap.size W _w ∧ RuG _w y ∧ RuC x y
theorem cpyZ (x : Ru) (W : World) (h : RuG W x) : CpyZ x W := (rcopy_any x W h).mono fun _e _w ⟨y, he, hb, hY, hc, _⟩ => ⟨y, he, hb, hY, hc⟩

/-- Copy of a rule of one relation, its cells apart. -/
def OneC (g1 g2 : Nat) (t : Rl) (W : World) : Prop := Calls Tryd.prog 9 #[.agg #[.slice (some ⟨g2, 0, none⟩) 1 1, .slice none 0 0, .slice none 0 0, .bool false, .bool false]] W fun (_e : Ending) (_w : World) =>
  ∃ (g3 o3 c3 g4 o4 c4 : Nat) (p1 p2 : Option Addr) (k1 k2 : Nat) (t' : Rl) (y : Ru), _e = .returned (.agg #[.slice (some ⟨g3, o3, none⟩) 1 c3, .slice p1 0 k1, .slice p2 0 k2, .bool false, .bool false]) ∧
    y.v = .agg #[.slice (some ⟨g3, o3, none⟩) 1 c3, .slice p1 0 k1, .slice p2 0 k2, .bool false, .bool false] ∧ Below W.heap.size W _w ∧ RuG _w y ∧ RuC (oneR g1 g2 t) y ∧ g3 < _w.heap.size ∧ g4 < _w.heap.size ∧ _w.cell? ⟨g3, o3, none⟩ = some (.slice (some ⟨g4, o4, none⟩) 1 c4) ∧ RelAt _w g4 o4 t' ∧ t'.e = t.e ∧ t'.F
theorem one_call (g1 g2 : Nat) (t : Rl) (W : World) (h : RuG W (oneR g1 g2 t)) : OneC g1 g2 t W := (rcopy_any _ W h).mono fun _e _w ⟨y, he, hb, hY, hc, _⟩ => by
  obtain ⟨g3, o3, c3, g4, o4, c4, t', e1, e2, e3, l3, l4, cy, hR, het, hF⟩ := one_copy hc hY
  have s1 : y.si.n = 0 := hc.si.1
  have s2 : y.sd.n = 0 := hc.sd.1
  have s3 : y.mi = false := hc.mi
  have s4 : y.md = false := hc.md
  have hv : y.v = .agg #[.slice (some ⟨g3, o3, none⟩) 1 c3, .slice y.si.ad 0 y.si.cap, .slice y.sd.ad 0 y.sd.cap, .bool false, .bool false] := by
    unfold Ru.v Sg.v
    rw [e1, e2, e3, s1, s2, s3, s4]
  exact ⟨g3, o3, c3, g4, o4, c4, _, _, _, _, t', y, he.trans (by rw [hv]), hv, hb, hY, hc, l3, l4, cy, hR, het, hF⟩

set_option maxHeartbeats 8000000 in
set_option maxRecDepth 100000 in
theorem lists_walk (x : Ru) (dn : Bool) (di df : ByteArray) (ke : Int) (w : World) (hXX : x.n ≤ x.cap ∧ RuG w x) (p1 : di.size ≤ 140737488355328) (p2 : df.size ≤ 140737488355328) (hT : TabC w) :
    Calls Tryd.prog 3 #[x.v, .agg #[.bool dn, .string di, .string df], .int .i64 ke] w fun e w' => e = .returned (.bool true) ∧ Below w.heap.size w w' := by
  have hX := hXX.2
  have hcp := hXX.1
  clear hXX
  have DA := Lib.hid (fun wx (hx : Below w.heap.size w wx) => cawake_any wx (hT.keep hx))
  have DC := Lib.hid (fun wx (hx : Below w.heap.size w wx) => cpyZ x wx (hX.keep hx))
  have HX := Lib.hid hX
  have hm := hX.or.most
  have K := ls_new w _ (.slice x.ad x.n x.cap) x.si.v x.sd.v (.bool x.mi) (.bool x.md) (.bool dn) (.string di) (.string df) 25 27 rfl
  have CC := Lib.hid (of_cases dn di df ke p1 p2)
  clear hX hT p1 p2
  obtain ⟨ra, rn, rc, rl, ⟨a1, n1, cc1, l1⟩, ⟨a2, n2, cc2, l2⟩, mi, md⟩ := x
  unfold Ru.v Sg.v at *
  simp only at *
  unfold CpyZ at DC
  simp only at DC
  obtain ⟨W0, hW0⟩ : ∃ W0, W0 = (w.alloc (.cells #[.slice ra rn rc, .slice a1 n1 cc1, .slice a2 n2 cc2, .bool mi, .bool md] 25)).alloc (.cells #[.bool dn, .string di, .string df] 27) := ⟨_, rfl⟩
  rw [← hW0] at K
  have KG := Lib.hid K
  clear K
  go_enter Tryd.func3, Tryd.ntmps3
  go_wp2_with fail
  rw [← hW0]
  clear hW0
  (with_reducible refine (DA.out _ KG.out.below).mono ?_)
  rintro e w1 ⟨rfl, hb1⟩
  have K1 := Lib.hid (KG.out.keep hb1)
  clear hb1
  rename World => wo
  obtain ⟨-, -, x0, x1, x2, -⟩ := K1.out
  rcases CC.out with ⟨c, hc, -, HO⟩ | ⟨d, x, hd, rfl, rfl, rfl, hk1, hk2, ho, hx⟩
  · have HOH := Lib.hid HO
    have q : (c == 0) = false := beq_eq_false_iff_ne.2 (by rcases hc with rfl | rfl | rfl <;> decide)
    clear HO hc
    go_wp2_with fail
    (with_reducible refine (HOH.out _).mono ?_)
    rintro e w2 ⟨rfl, hb2⟩
    have K2 := Lib.hid (K1.out.keep hb2)
    clear hb2 x0 x1 x2
    go_wp2
    go_ret
    exact ⟨rfl, K2.out.below.alloc K2.out.below.size _⟩
  · obtain ⟨E, rfl⟩ : ∃ E : Nat, ke = E := ⟨ke.toNat, by omega⟩
    have hE : E ≤ 40 := by omega
    obtain ⟨o, hoo⟩ : ∃ o, o = ops9 (absX x) E := ⟨_, rfl⟩
    have HO : Hid (∀ wx : World, Calls Tryd.prog 7 #[.agg #[.bool d.neg, .string (dStr d.i), .string (dStr d.f)], .int .i64 (E : Int)] wx fun e w' => e = .returned (.tuple #[o.v, .int .i64 0]) ∧ Below wx.heap.size wx w') := Lib.hid (fun wx => by rw [hoo]; exact of_told hd hx hk1 hk2 ho wx)
    obtain ⟨hit, hhit⟩ : ∃ hit, hit = hitR (absX x) E := ⟨_, rfl⟩
    have HH : Hid (∀ (z y : Ru), RuC z y → ∀ W : World, RuG W y → Calls Tryd.prog 8 #[y.v, o.v] W fun e w' => e = .returned (.tuple #[.bool (if ckT z = 0 then holdN hit ⟨0, z⟩ else false), .int .i64 (ckT z)]) ∧ Below W.heap.size W w') := Lib.hid (fun z y hC W hY => by rw [hoo, hhit]; exact Holds_copy hx hE hC W hY)
    have HI : Hid (∀ (r r' : Rl), r'.e = r.e → r'.F → relE r = 0 → ∀ wx : World, SpnG wx r'.ad r'.n r'.l → Calls Tryd.prog 10 #[o.v, r'.v] wx fun e w' => e = .returned (.tuple #[.bool (hit r), .int .i64 0]) ∧ Below wx.heap.size wx w') := Lib.hid (fun r r' he hF hr wx hs => by rw [hoo, hhit]; exact in_copy hx hE he hF hr wx hs)
    have H1 : Hid (∀ (g1 g2 : Nat) (r : Rl), holdN hit ⟨0, oneR g1 g2 r⟩ = hit r) := Lib.hid (fun g1 g2 r => by rw [hhit]; exact one_hold)
    have H2 : Hid (∀ (g o c : Nat) (a : An), holdN hit ⟨0, aloR g o c a⟩ = a.l.all hit) := Lib.hid (fun g o c a => by rw [hhit]; exact alo_hold)
    clear hoo hhit hd hx hk1 hk2 ho hE CC
    generalize dStr d.i = di at *
    generalize dStr d.f = df at *
    generalize d.neg = dn at *
    go_wp2_with fail
    (with_reducible refine (HO.out _).mono ?_)
    rintro e w2 ⟨rfl, hb2⟩
    have K2 := Lib.hid (K1.out.keep hb2)
    clear hb2 x0 x1 x2
    obtain ⟨oa, ob, oc, od, oe, of, og, oh, oi⟩ := o
    unfold Op9.v at *
    simp only at *
    go_wp2_with fail
    have b4 : Below w2.heap.size w2 (w2.alloc (.cells #[.bool oa, .string ob, .string oc, .string od, .int .i64 oe, .int .i64 of, .string og, .string oh, .int .i64 oi] 30)) := (Below.refl _ _).alloc (Nat.le_refl _) _
    have O4 := Lib.hid (bx9_new w2 (.bool oa) (.string ob) (.string oc) (.string od) (.int .i64 oe) (.int .i64 of) (.string og) (.string oh) (.int .i64 oi) 30)
    have K4 := Lib.hid (K2.out.keep b4)
    clear b4 K2
    generalize w2.alloc (.cells #[.bool oa, .string ob, .string oc, .string od, .int .i64 oe, .int .i64 of, .string og, .string oh, .int .i64 oi] 30) = W4 at *
    generalize w2.heap.size = q at *
    obtain ⟨-, ⟨r0, r1, r2, r3, r4, -⟩, -⟩ := K4.out
    obtain ⟨f0, f1, f2, f3, f4, f5, f6, f7, f8, hqlt⟩ := O4.out
    obtain ⟨c0, hc0⟩ : ∃ c0, c0 = ckT ⟨ra, rn, rc, rl, ⟨a1, n1, cc1, l1⟩, ⟨a2, n2, cc2, l2⟩, mi, md⟩ := ⟨_, rfl⟩
    obtain ⟨G, hG⟩ : ∃ G, G = holdN hit ⟨0, ⟨ra, rn, rc, rl, ⟨a1, n1, cc1, l1⟩, ⟨a2, n2, cc2, l2⟩, mi, md⟩⟩ := ⟨_, rfl⟩
    have HHX : Hid (∀ y : Ru, RuC ⟨ra, rn, rc, rl, ⟨a1, n1, cc1, l1⟩, ⟨a2, n2, cc2, l2⟩, mi, md⟩ y → ∀ W : World, RuG W y → Calls Tryd.prog 8 #[y.v, .agg #[.bool oa, .string ob, .string oc, .string od, .int .i64 oe, .int .i64 of, .string og, .string oh, .int .i64 oi]] W fun e w' => e = .returned (.tuple #[.bool (if c0 = 0 then G else false), .int .i64 c0]) ∧ Below W.heap.size W w') := Lib.hid (fun y hC W hY => by rw [hc0, hG]; exact HH.out _ y hC W hY)
    have HG := Lib.hid hG
    have HC0 := Lib.hid hc0
    clear hG hc0
    by_cases q0 : c0 = 0
    · subst q0
      rw [if_pos rfl] at HHX
      go_wp2_with fail
      go_region_held3 (fun w' => (w'.cell? ⟨w.heap.size, 0, none⟩ = some (.slice ra rn rc) ∧ w'.cell? ⟨w.heap.size, 1, none⟩ = some (.slice a1 n1 cc1) ∧ w'.cell? ⟨w.heap.size, 2, none⟩ = some (.slice a2 n2 cc2) ∧ w'.cell? ⟨w.heap.size, 3, none⟩ = some (.bool mi) ∧ w'.cell? ⟨w.heap.size, 4, none⟩ = some (.bool md)) ∧ (w'.cell? ⟨q, 0, none⟩ = some (.bool oa) ∧ w'.cell? ⟨q, 1, none⟩ = some (.string ob) ∧ w'.cell? ⟨q, 2, none⟩ = some (.string oc) ∧ w'.cell? ⟨q, 3, none⟩ = some (.string od) ∧ w'.cell? ⟨q, 4, none⟩ = some (.int .i64 oe) ∧ w'.cell? ⟨q, 5, none⟩ = some (.int .i64 of) ∧ w'.cell? ⟨q, 6, none⟩ = some (.string og) ∧ w'.cell? ⟨q, 7, none⟩ = some (.string oh) ∧ w'.cell? ⟨q, 8, none⟩ = some (.int .i64 oi)))
        (first
          | (with_reducible exact ⟨⟨r0, r1, r2, r3, r4⟩, f0, f1, f2, f3, f4, f5, f6, f7, f8⟩)
          | (with_reducible exact ⟨⟨(drew_cell _ _).trans r0, (drew_cell _ _).trans r1, (drew_cell _ _).trans r2, (drew_cell _ _).trans r3, (drew_cell _ _).trans r4⟩, (drew_cell _ _).trans f0, (drew_cell _ _).trans f1, (drew_cell _ _).trans f2, (drew_cell _ _).trans f3, (drew_cell _ _).trans f4, (drew_cell _ _).trans f5, (drew_cell _ _).trans f6, (drew_cell _ _).trans f7, (drew_cell _ _).trans f8⟩)
          | (have t := K4.out.keep hA; have u := O4.out.keep hA; with_reducible exact ⟨⟨t.r.c0, t.r.c1, t.r.c2, t.r.c3, t.r.c4⟩, u.c0, u.c1, u.c2, u.c3, u.c4, u.c5, u.c6, u.c7, u.c8⟩)
          | (have t := K4.out.keep hP; have u := O4.out.keep hP; with_reducible exact ⟨⟨t.r.c0, t.r.c1, t.r.c2, t.r.c3, t.r.c4⟩, u.c0, u.c1, u.c2, u.c3, u.c4, u.c5, u.c6, u.c7, u.c8⟩))
        (first
          | (go_at_call 9; (with_reducible refine (DC.out _ K4.out.below.drew).mono ?_); rintro e wA ⟨y, rfl, hbA, hYA, hCA⟩; have hA : Below W4.heap.size W4 wA := undrew hbA)
          | (go_at_call 8; (with_reducible refine (HHX.out y hCA _ hYA).mono ?_); rintro e wP ⟨rfl, hbP⟩; have hP : Below W4.heap.size W4 wP := hA.trans (hbP.mono hA.size)))
      have K5 := Lib.hid (K4.out.keep hP)
      have O5 := Lib.hid (O4.out.keep hP)
      clear hP hA hYA hCA f0 f1 f2 f3 f4 f5 f6 f7 f8 r0 r1 r2 r3 r4 K4 O4
      rename World => W5
      obtain ⟨z, hz⟩ : ∃ z, ((rn : Int) == 0) = z := ⟨_, rfl⟩
      obtain ⟨-, ⟨r0, r1, r2, r3, r4, -⟩, -⟩ := K5.out
      go_wp2_with fail
      clear r0 r1 r2 r3 r4
      go_loopg [10, 11] rn (fun g sa si wr => ∃ (k : Nat) (bo : Bool), k + g = rn ∧ sa = .bool bo ∧ si = .int .i64 k ∧ Aside (bo = (z || (rl.take k).any (fun a => a.l.all hit))) ∧ Aside (Below W5.heap.size W5 wr))
      case atStart => exact ⟨0, z, by omega, rfl, rfl, by show z = (z || false); rw [Bool.or_false], Below.refl _ _⟩
      case round =>
        obtain ⟨k, bo, hk, rfl, rfl, HB, HW⟩ := hrel
        have K6 := Lib.hid (K5.out.keep HW.out)
        have O6 := Lib.hid (O5.out.keep HW.out)
        obtain ⟨-, ⟨r0, r1, r2, r3, r4, -⟩, -⟩ := K6.out
        cases gk with
        | zero =>
          have hkz : ¬ ((k : Int) < (rn : Int)) := by omega
          have hgb : G = bo := by
            rw [HG.out, HB.out, List.take_of_length_le (by have := HX.out.or.len; show rl.length ≤ k; simp only at this; omega), ← hz]
            unfold holdN
            simp only
            congr 1
            rw [Bool.eq_iff_iff]
            simp
          subst hgb
          go_wp2
          go_ret
          exact ⟨rfl, K6.out.below⟩
        | succ g =>
          have hkz : ((k : Int) < (rn : Int)) := by omega
          obtain ⟨gb, off, had, hg, hAt⟩ := (HX.out.keep K6.out.below).or.at_ (by show rn ≠ 0; omega)
          obtain ⟨d0, dA⟩ := hAt k (by show k < rn; omega)
          have hkl : k < rl.length := by have := HX.out.or.len; simp only at this; omega
          have hEach := orE_each (by decide) (ckT_or _ HC0.out.symm) _ (getD_memC An.nil hkl)
          have hAR := alo_ru (HX.out.keep K6.out.below) (i := k) (g := gb) (off := off) (by show k < rn; omega) had (rc - k)
          have hAC := alo_ck HC0.out.symm (i := k) hkl gb (off + k) (rc - k)
          have ea := any_takeC (p := fun a => a.l.all hit) An.nil hkl
          simp only at d0 dA hEach hAR hAC had
          obtain ⟨y, hy0⟩ : ∃ y, y = rl.getD k An.nil := ⟨_, rfl⟩
          rw [← hy0] at d0 dA hEach hAR hAC ea
          have HHA : Hid (∀ y' : Ru, RuC (aloR gb (off + k) (rc - k) y) y' → ∀ W : World, RuG W y' → Calls Tryd.prog 8 #[y'.v, .agg #[.bool oa, .string ob, .string oc, .string od, .int .i64 oe, .int .i64 of, .string og, .string oh, .int .i64 oi]] W fun e w' => e = .returned (.tuple #[.bool (y.l.all hit), .int .i64 0]) ∧ Below W.heap.size W w') := Lib.hid (fun y' hC W hY => by
            have := HH.out _ y' hC W hY
            rwa [hAC, if_pos rfl, H2.out] at this)
          have DAC := Lib.hid (fun wx (hx : Below wr.heap.size wr wx) => cpyZ (aloR gb (off + k) (rc - k) y) wx (hAR.keep hx))
          have HYY := Lib.hid hy0
          have HG2 := Lib.hid dA
          have HEA := Lib.hid ea
          have HEC := Lib.hid hEach
          have hym := dA.most
          clear hAt dA hEach hAR hAC ea hy0
          subst had
          obtain ⟨ya, yn, yc, yl⟩ := y
          unfold An.v at d0
          simp only at d0 hym HHA HEA
          unfold CpyZ aloR at DAC
          unfold aloR at HHA
          simp only at DAC
          go_wp2_with fail
          rename World => W7
          go_loopg [12, 13] yn (fun g2 sb sj wy => ∃ (j : Nat) (al : Bool), j + g2 = yn ∧ sb = .bool al ∧ sj = .int .i64 j ∧ Aside (al = (yl.take j).all hit) ∧ Aside (Below W7.heap.size W7 wy))
          case atStart => exact ⟨0, true, by omega, rfl, rfl, rfl, Below.refl _ _⟩
          case round =>
            obtain ⟨j, al, hj, rfl, rfl, HL, HY⟩ := hrel
            have K8 := Lib.hid (K6.out.keep HY.out)
            have O8 := Lib.hid (O6.out.keep HY.out)
            obtain ⟨-, ⟨r0, r1, r2, r3, r4, -⟩, -⟩ := K8.out
            have d1 := (HY.out.cell (p := ⟨gb, off + k, none⟩) hg).trans d0
            cases gk with
            | zero =>
              have hjz : ¬ ((j : Int) < (yn : Int)) := by omega
              have hal : al = yl.all hit := by rw [HL.out, List.take_of_length_le (by have : yl.length = yn := HG2.out.len; omega)]
              subst hal
              obtain ⟨f0, f1, f2, f3, f4, f5, f6, f7, f8, -⟩ := O8.out
              have hwr : IntKind.i64.wrap ((k : Int) + 1) = (k : Int) + 1 := IntWalk.i64_in _ (by omega)
              have hs0 : (0 : Int) ≤ (k : Int) := by omega
              have hs1 : (k : Int) ≤ (k : Int) + 1 := by omega
              have hs2 : (k : Int) + 1 ≤ (rc : Int) := by omega
              have hrk : ¬ rc = k := by omega
              go_wp2_with fail
              go_region_held3 (fun w' => w'.cell? ⟨w.heap.size, 0, none⟩ = some (.slice (some ⟨gb, off, none⟩) rn rc) ∧ (w'.cell? ⟨q, 0, none⟩ = some (.bool oa) ∧ w'.cell? ⟨q, 1, none⟩ = some (.string ob) ∧ w'.cell? ⟨q, 2, none⟩ = some (.string oc) ∧ w'.cell? ⟨q, 3, none⟩ = some (.string od) ∧ w'.cell? ⟨q, 4, none⟩ = some (.int .i64 oe) ∧ w'.cell? ⟨q, 5, none⟩ = some (.int .i64 of) ∧ w'.cell? ⟨q, 6, none⟩ = some (.string og) ∧ w'.cell? ⟨q, 7, none⟩ = some (.string oh) ∧ w'.cell? ⟨q, 8, none⟩ = some (.int .i64 oi)))
                (first
                  | (with_reducible exact ⟨r0, f0, f1, f2, f3, f4, f5, f6, f7, f8⟩)
                  | (with_reducible exact ⟨(drew_cell _ _).trans r0, (drew_cell _ _).trans f0, (drew_cell _ _).trans f1, (drew_cell _ _).trans f2, (drew_cell _ _).trans f3, (drew_cell _ _).trans f4, (drew_cell _ _).trans f5, (drew_cell _ _).trans f6, (drew_cell _ _).trans f7, (drew_cell _ _).trans f8⟩)
                  | (have t := K8.out.keep hA; have u := O8.out.keep hA; with_reducible exact ⟨t.r.c0, u.c0, u.c1, u.c2, u.c3, u.c4, u.c5, u.c6, u.c7, u.c8⟩)
                  | (have t := K8.out.keep hP; have u := O8.out.keep hP; with_reducible exact ⟨t.r.c0, u.c0, u.c1, u.c2, u.c3, u.c4, u.c5, u.c6, u.c7, u.c8⟩))
                (first
                  | (go_at_call 9; (with_reducible refine (DAC.out _ HY.out.drew).mono ?_); rintro e wA ⟨y', rfl, hbA, hYA, hCA⟩; have hA : Below wr.heap.size wr wA := undrew hbA)
                  | (go_at_call 8; (with_reducible refine (HHA.out y' hCA _ hYA).mono ?_); rintro e wP ⟨rfl, hbP⟩; have hP : Below wr.heap.size wr wP := hA.trans (hbP.mono hA.size)))
              have HW9 := Lib.hid (HW.out.trans ((HY.out.trans (hP.mono HY.out.size)).mono HW.out.size))
              clear hP hA hYA hCA f0 f1 f2 f3 f4 f5 f6 f7 f8 hs0 hs1 hs2 hrk hwr r0 r1 r2 r3 r4
              have h2 := HB.out
              have H2H := Lib.hid h2
              clear h2 HB
              cases hq : yl.all hit <;> cases bo
              all_goals
                go_wp2
                go_roundg g
                case measure => omega
                case rel =>
                  refine ⟨k + 1, _, by omega, rfl, by go_num, ?_, HW9.out⟩
                  have h1 := HEA.out
                  rw [hq] at h1
                  show _ = _
                  rw [h1]
                  first | (simp; done) | (rw [Bool.or_false]; exact H2H.out)
            | succ g2 =>
              have hjz : ((j : Int) < (yn : Int)) := by omega
              obtain ⟨gc, of2, had2, hg2, hR⟩ := (HG2.out.keep HY.out).at_ (by show yn ≠ 0; omega)
              have hr := hR j (by show j < yn; omega)
              change ya = some ⟨gc, of2, none⟩ at had2
              change RelAt wr gc (of2 + j * 5) (yl.getD j Rl.nil) at hr
              have hjl : j < yl.length := by have : yl.length = yn := HG2.out.len; omega
              have he0 := HEC.out.2.2 _ (getD_memC Rl.nil hjl)
              have et := all_takeC (hb := hit) hjl
              obtain ⟨t, ht0⟩ : ∃ t, t = yl.getD j Rl.nil := ⟨_, rfl⟩
              change relE (yl.getD j Rl.nil) = 0 at he0
              rw [← ht0] at hr he0 et
              have HTT := Lib.hid ht0
              have HRR := Lib.hid hr
              have HET := Lib.hid et
              have HE0 := Lib.hid he0
              clear hR he0 et ht0
              subst had2
              obtain ⟨hbO, hRO⟩ := one_ru (t1 := 40) (t2 := 37) hr rfl rfl
              have DO := Lib.hid (one_call wr.heap.size (wr.heap.size + 1) t _ hRO)
              unfold OneC at DO
              have HHO : Hid (∀ (v : Value) (y' : Ru), y'.v = v → RuC (oneR wr.heap.size (wr.heap.size + 1) t) y' → ∀ W : World, RuG W y' → Calls Tryd.prog 8 #[v, .agg #[.bool oa, .string ob, .string oc, .string od, .int .i64 oe, .int .i64 of, .string og, .string oh, .int .i64 oi]] W fun e w' => e = .returned (.tuple #[.bool (hit t), .int .i64 0]) ∧ Below W.heap.size W w') := Lib.hid (fun v y' hv hC W hY => by
                have := HH.out _ y' hC W hY
                rw [one_ck HE0.out, if_pos rfl, H1.out, hv] at this
                exact this)
              have HBO := Lib.hid hbO
              clear hRO hbO
              obtain ⟨x0, x1, x2, x3, x4, -, -⟩ := hr
              go_wp2_with fail
              (with_reducible refine DO.out.mono ?_)
              rintro e w5 ⟨g3, o3, c3, g4, o4, c4, p1, p2, m1, m2, t', y', rfl, hyv, hb5, hY5, hC5, l3, l4, cy, hRt, het, hFt⟩
              have B5 := Lib.hid (HBO.out.trans (hb5.mono HBO.out.size))
              clear x0 x1 x2 x3 x4 hb5 HBO DO
              have b6 : Below w5.heap.size w5 (w5.alloc (.cells #[.slice (some ⟨g3, o3, none⟩) 1 c3, .slice p1 0 m1, .slice p2 0 m2, .bool false, .bool false] 25)) := (Below.refl _ _).alloc (Nat.le_refl _) _
              have N6 := Lib.hid (bq5_new w5 (.slice (some ⟨g3, o3, none⟩) 1 c3) (.slice p1 0 m1) (.slice p2 0 m2) (.bool false) (.bool false) 25)
              have B6 := Lib.hid (B5.out.trans (b6.mono B5.out.size))
              have DH := Lib.hid (HHO.out _ y' hyv hC5 _ (hY5.keep b6))
              have HR6 := Lib.hid (hRt.keep b6 l4)
              have cy6 := (b6.cell (p := ⟨g3, o3, none⟩) l3).trans cy
              have l3' := Nat.lt_of_lt_of_le l3 b6.size
              have l4' := Nat.lt_of_lt_of_le l4 b6.size
              have DI := Lib.hid (fun wx hs => HI.out t t' het hFt HE0.out wx hs)
              clear hyv hC5 hY5 hRt het hFt b6 cy l3 l4
              obtain ⟨n0, n1', n2', n3, n4, nlt⟩ := N6.out
              have O9 := Lib.hid (O8.out.keep B6.out)
              obtain ⟨f0, f1, f2, f3, f4, f5, f6, f7, f8, -⟩ := O9.out
              go_wp2_with fail
              (with_reducible refine DH.out.mono ?_)
              rintro e w7 ⟨rfl, hb7⟩
              have B7 := Lib.hid (B6.out.trans (hb7.mono B6.out.size))
              have N7 := Lib.hid (N6.out.keep hb7)
              have O7 := Lib.hid (O9.out.keep hb7)
              have HR7 := Lib.hid (HR6.out.keep hb7 l4')
              have cy7 := (hb7.cell (p := ⟨g3, o3, none⟩) l3').trans cy6
              have DI2 := Lib.hid (fun wx (hx : Below w7.heap.size w7 wx) => DI.out wx (HR7.out.li.keep hx))
              have l37 := Nat.lt_of_lt_of_le l3' hb7.size
              have l47 := Nat.lt_of_lt_of_le l4' hb7.size
              clear hb7 f0 f1 f2 f3 f4 f5 f6 f7 f8 n0 n1' n2' n3 n4 nlt N6 O9 HR6 cy6 l3' l4' DH B6 DI
              obtain ⟨f0, f1, f2, f3, f4, f5, f6, f7, f8, -⟩ := O7.out
              obtain ⟨n0, -⟩ := N7.out
              obtain ⟨op', mo', no', wi', ad', nn', cap', li'⟩ := t'
              obtain ⟨y0, y1, y2, y3, y4, -, -⟩ := HR7.out
              unfold Rl.v at DI2
              simp only at DI2 y0 y1 y2 y3 y4
              go_wp2_with fail
              go_region_held3 (fun w' => (w'.cell? ⟨q, 0, none⟩ = some (.bool oa) ∧ w'.cell? ⟨q, 1, none⟩ = some (.string ob) ∧ w'.cell? ⟨q, 2, none⟩ = some (.string oc) ∧ w'.cell? ⟨q, 3, none⟩ = some (.string od) ∧ w'.cell? ⟨q, 4, none⟩ = some (.int .i64 oe) ∧ w'.cell? ⟨q, 5, none⟩ = some (.int .i64 of) ∧ w'.cell? ⟨q, 6, none⟩ = some (.string og) ∧ w'.cell? ⟨q, 7, none⟩ = some (.string oh) ∧ w'.cell? ⟨q, 8, none⟩ = some (.int .i64 oi)) ∧ w'.cell? ⟨w5.heap.size, 0, none⟩ = some (.slice (some ⟨g3, o3, none⟩) 1 c3) ∧ w'.cell? ⟨g3, o3, none⟩ = some (.slice (some ⟨g4, o4, none⟩) 1 c4) ∧ w'.cell? ⟨g4, o4, none⟩ = some (.string op') ∧ w'.cell? ⟨g4, o4 + 1, none⟩ = some (.string mo') ∧ w'.cell? ⟨g4, o4 + 2, none⟩ = some (.bool no') ∧ w'.cell? ⟨g4, o4 + 3, none⟩ = some (.bool wi') ∧ w'.cell? ⟨g4, o4 + 4, none⟩ = some (.slice ad' nn' cap'))
                (first
                  | (with_reducible exact ⟨⟨f0, f1, f2, f3, f4, f5, f6, f7, f8⟩, n0, cy7, y0, y1, y2, y3, y4⟩)
                  | (with_reducible exact ⟨⟨(drew_cell _ _).trans f0, (drew_cell _ _).trans f1, (drew_cell _ _).trans f2, (drew_cell _ _).trans f3, (drew_cell _ _).trans f4, (drew_cell _ _).trans f5, (drew_cell _ _).trans f6, (drew_cell _ _).trans f7, (drew_cell _ _).trans f8⟩, (drew_cell _ _).trans n0, (drew_cell _ _).trans cy7, (drew_cell _ _).trans y0, (drew_cell _ _).trans y1, (drew_cell _ _).trans y2, (drew_cell _ _).trans y3, (drew_cell _ _).trans y4⟩)
                  | (have u := O7.out.keep hP; have t := HR7.out.keep hP l47; have n := N7.out.keep hP; have c := (hP.cell (p := ⟨g3, o3, none⟩) l37).trans cy7; with_reducible exact ⟨⟨u.c0, u.c1, u.c2, u.c3, u.c4, u.c5, u.c6, u.c7, u.c8⟩, n.c0, c, t.c0, t.c1, t.c2, t.c3, t.c4⟩))
                (first | (go_at_call 10; (with_reducible refine (DI2.out _ (Below.refl w7.heap.size w7).drew).mono ?_); rintro e w8 ⟨rfl, hb8⟩; have hP : Below w7.heap.size w7 w8 := undrew hb8))
              have HY8 := Lib.hid (HY.out.trans ((B7.out.trans (hP.mono B7.out.size)).mono HY.out.size))
              clear hP f0 f1 f2 f3 f4 f5 f6 f7 f8 n0 y0 y1 y2 y3 y4 cy7 DI2 HR7
              have h2 := HL.out
              have H2H := Lib.hid h2
              clear h2 HL
              cases hbt : hit t <;> cases al
              all_goals
                go_wp2
                go_roundg g2
                case measure => omega
                case rel =>
                  refine ⟨j + 1, _, by omega, rfl, by go_num, ?_, HY8.out⟩
                  have h1 := HET.out
                  rw [hbt] at h1
                  have h3 := H2H.out
                  show _ = _
                  rw [h1, ← h3]
                  rfl
    · have qz : (c0 == 0) = false := beq_eq_false_iff_ne.2 q0
      rw [if_neg q0] at HHX
      go_wp2_with fail
      go_region_held3 (fun w' => (w'.cell? ⟨w.heap.size, 0, none⟩ = some (.slice ra rn rc) ∧ w'.cell? ⟨w.heap.size, 1, none⟩ = some (.slice a1 n1 cc1) ∧ w'.cell? ⟨w.heap.size, 2, none⟩ = some (.slice a2 n2 cc2) ∧ w'.cell? ⟨w.heap.size, 3, none⟩ = some (.bool mi) ∧ w'.cell? ⟨w.heap.size, 4, none⟩ = some (.bool md)) ∧ (w'.cell? ⟨q, 0, none⟩ = some (.bool oa) ∧ w'.cell? ⟨q, 1, none⟩ = some (.string ob) ∧ w'.cell? ⟨q, 2, none⟩ = some (.string oc) ∧ w'.cell? ⟨q, 3, none⟩ = some (.string od) ∧ w'.cell? ⟨q, 4, none⟩ = some (.int .i64 oe) ∧ w'.cell? ⟨q, 5, none⟩ = some (.int .i64 of) ∧ w'.cell? ⟨q, 6, none⟩ = some (.string og) ∧ w'.cell? ⟨q, 7, none⟩ = some (.string oh) ∧ w'.cell? ⟨q, 8, none⟩ = some (.int .i64 oi)))
        (first
          | (with_reducible exact ⟨⟨r0, r1, r2, r3, r4⟩, f0, f1, f2, f3, f4, f5, f6, f7, f8⟩)
          | (with_reducible exact ⟨⟨(drew_cell _ _).trans r0, (drew_cell _ _).trans r1, (drew_cell _ _).trans r2, (drew_cell _ _).trans r3, (drew_cell _ _).trans r4⟩, (drew_cell _ _).trans f0, (drew_cell _ _).trans f1, (drew_cell _ _).trans f2, (drew_cell _ _).trans f3, (drew_cell _ _).trans f4, (drew_cell _ _).trans f5, (drew_cell _ _).trans f6, (drew_cell _ _).trans f7, (drew_cell _ _).trans f8⟩)
          | (have t := K4.out.keep hA; have u := O4.out.keep hA; with_reducible exact ⟨⟨t.r.c0, t.r.c1, t.r.c2, t.r.c3, t.r.c4⟩, u.c0, u.c1, u.c2, u.c3, u.c4, u.c5, u.c6, u.c7, u.c8⟩)
          | (have t := K4.out.keep hP; have u := O4.out.keep hP; with_reducible exact ⟨⟨t.r.c0, t.r.c1, t.r.c2, t.r.c3, t.r.c4⟩, u.c0, u.c1, u.c2, u.c3, u.c4, u.c5, u.c6, u.c7, u.c8⟩))
        (first
          | (go_at_call 9; (with_reducible refine (DC.out _ K4.out.below.drew).mono ?_); rintro e wA ⟨y, rfl, hbA, hYA, hCA⟩; have hA : Below W4.heap.size W4 wA := undrew hbA)
          | (go_at_call 8; (with_reducible refine (HHX.out y hCA _ hYA).mono ?_); rintro e wP ⟨rfl, hbP⟩; have hP : Below W4.heap.size W4 wP := hA.trans (hbP.mono hA.size)))
      have K5 := Lib.hid (K4.out.keep hP)
      clear hP hA hYA hCA f0 f1 f2 f3 f4 f5 f6 f7 f8 r0 r1 r2 r3 r4
      go_wp2
      go_ret
      exact ⟨rfl, K5.out.below⟩
end
end Go.Proofs.YtmggdnnffdaffaaDoor
