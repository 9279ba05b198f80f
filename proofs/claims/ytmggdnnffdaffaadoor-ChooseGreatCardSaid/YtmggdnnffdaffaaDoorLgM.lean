/- Merged: LawGrA, LawGrB. -/
import Derived.Test.YtmggdnnffdaffaaDoorClM
import Derived.Test.YtmggdnnffdaffaaDoorTpM
import Derived.Test.YtmggdnnffdaffaaDoorMkF
namespace Go.Proofs.YtmggdnnffdaffaaDoor
section
open Go.RowKit

/-- The boxes of a set and two decimals. -/
structure GrI (w W : World) (sv a0 a1 a2 b0 b1 b2 : Value) : Prop where
  below : Below w.heap.size w W
  s0 : W.cell? ⟨w.heap.size, 0, none⟩ = some sv
  a0 : W.cell? ⟨w.heap.size + 1, 0, none⟩ = some a0
  a1 : W.cell? ⟨w.heap.size + 1, 1, none⟩ = some a1
  a2 : W.cell? ⟨w.heap.size + 1, 2, none⟩ = some a2
  b0 : W.cell? ⟨w.heap.size + 1 + 1, 0, none⟩ = some b0
  b1 : W.cell? ⟨w.heap.size + 1 + 1, 1, none⟩ = some b1
  b2 : W.cell? ⟨w.heap.size + 1 + 1, 2, none⟩ = some b2
  fa : W.frozen? ⟨w.heap.size + 1, 0, none⟩ = false
  fb : W.frozen? ⟨w.heap.size + 1 + 1, 0, none⟩ = false
  lt : w.heap.size + 1 + 1 < W.heap.size
theorem GrI.keep {w W W' : World} {sv a0 a1 a2 b0 b1 b2 : Value} (h : GrI w W sv a0 a1 a2 b0 b1 b2) (hb : Below W.heap.size W W') : GrI w W' sv a0 a1 a2 b0 b1 b2 := by
  have l := h.lt
  exact ⟨h.below.trans (hb.mono h.below.size), (hb.cell (p := ⟨w.heap.size, 0, none⟩) (by show w.heap.size < _; omega)).trans h.s0,
    (hb.cell (p := ⟨w.heap.size + 1, 0, none⟩) (by show w.heap.size + 1 < _; omega)).trans h.a0, (hb.cell (p := ⟨w.heap.size + 1, 1, none⟩) (by show w.heap.size + 1 < _; omega)).trans h.a1, (hb.cell (p := ⟨w.heap.size + 1, 2, none⟩) (by show w.heap.size + 1 < _; omega)).trans h.a2,
    (hb.cell (p := ⟨w.heap.size + 1 + 1, 0, none⟩) l).trans h.b0, (hb.cell (p := ⟨w.heap.size + 1 + 1, 1, none⟩) l).trans h.b1, (hb.cell (p := ⟨w.heap.size + 1 + 1, 2, none⟩) l).trans h.b2,
    (hb.frozen (p := ⟨w.heap.size + 1, 0, none⟩) (by show w.heap.size + 1 < _; omega)).trans h.fa, (hb.frozen (p := ⟨w.heap.size + 1 + 1, 0, none⟩) l).trans h.fb, Nat.lt_of_lt_of_le l hb.size⟩
theorem gr_new (w W3 : World) (sv a0 a1 a2 b0 b1 b2 : Value) (t u : TypeId) (hW : W3 = ((w.alloc (.cells #[sv] t)).alloc (.cells #[a0, a1, a2] u)).alloc (.cells #[b0, b1, b2] u)) : GrI w W3 sv a0 a1 a2 b0 b1 b2 := by
  obtain ⟨w1, h1⟩ : ∃ w1, w1 = w.alloc (.cells #[sv] t) := ⟨_, rfl⟩
  obtain ⟨w2, h2⟩ : ∃ w2, w2 = w1.alloc (.cells #[a0, a1, a2] u) := ⟨_, rfl⟩
  rw [← h1, ← h2] at hW
  have s1 : w1.heap.size = w.heap.size + 1 := by rw [h1]; simp
  have s2 : w2.heap.size = w.heap.size + 1 + 1 := by rw [h2]; simp [s1]
  have s3 : W3.heap.size = w.heap.size + 1 + 1 + 1 := by rw [hW]; simp [s2]
  have b1' : Below w.heap.size w w1 := by rw [h1]; exact (Below.refl _ _).alloc (Nat.le_refl _) _
  have b2' : Below w1.heap.size w1 w2 := by rw [h2]; exact (Below.refl _ _).alloc (Nat.le_refl _) _
  have b3' : Below w2.heap.size w2 W3 := by rw [hW]; exact (Below.refl _ _).alloc (Nat.le_refl _) _
  have b12 := b2'.trans (b3'.mono b2'.size)
  have c0 : w1.cell? ⟨w.heap.size, 0, none⟩ = some sv := by rw [h1]; simp
  have x0 : w2.cell? ⟨w.heap.size + 1, 0, none⟩ = some a0 := by rw [h2, ← s1]; simp
  have x1 : w2.cell? ⟨w.heap.size + 1, 1, none⟩ = some a1 := by rw [h2, ← s1]; simp
  have x2 : w2.cell? ⟨w.heap.size + 1, 2, none⟩ = some a2 := by rw [h2, ← s1]; simp
  have f1 : w2.frozen? ⟨w.heap.size + 1, 0, none⟩ = false := by rw [h2, ← s1]; simp
  have l1 : w.heap.size + 1 < w2.heap.size := by omega
  exact ⟨b1'.trans (b12.mono b1'.size), (b12.cell (p := ⟨w.heap.size, 0, none⟩) (by show w.heap.size < _; omega)).trans c0,
    (b3'.cell (p := ⟨w.heap.size + 1, 0, none⟩) l1).trans x0, (b3'.cell (p := ⟨w.heap.size + 1, 1, none⟩) l1).trans x1, (b3'.cell (p := ⟨w.heap.size + 1, 2, none⟩) l1).trans x2,
    by rw [hW, ← s2]; simp, by rw [hW, ← s2]; simp, by rw [hW, ← s2]; simp, (b3'.frozen (p := ⟨w.heap.size + 1, 0, none⟩) l1).trans f1, by rw [hW, ← s2]; simp, by omega⟩
theorem GrI.neg {w W : World} {sv a0 a1 a2 b0 b1 b2 : Value} (h : GrI w W sv a0 a1 a2 b0 b1 b2) (x y : Value) : GrI w ((W.setCell ⟨w.heap.size + 1, 0, none⟩ x).setCell ⟨w.heap.size + 1 + 1, 0, none⟩ y) sv x a1 a2 y b1 b2 := by
  have l := h.lt
  refine ⟨(h.below.setCell (p := ⟨w.heap.size + 1, 0, none⟩) (by show w.heap.size ≤ w.heap.size + 1; omega) _).setCell (p := ⟨w.heap.size + 1 + 1, 0, none⟩) (by show w.heap.size ≤ w.heap.size + 1 + 1; omega) _, ?_, ?_, ?_, ?_, ?_, ?_, ?_, ?_, ?_, ?_⟩
  · exact (cell_far (addr_blk (by omega))).trans ((cell_far (addr_blk (by omega))).trans h.s0)
  · exact (cell_far (addr_blk (by omega))).trans (set_here h.a0)
  · exact (cell_far (addr_blk (by omega))).trans ((cell_far (addr_off (by decide))).trans h.a1)
  · exact (cell_far (addr_blk (by omega))).trans ((cell_far (addr_off (by decide))).trans h.a2)
  · exact set_here ((cell_far (addr_blk (by omega))).trans h.b0)
  · exact (cell_far (addr_off (by decide))).trans ((cell_far (addr_blk (by omega))).trans h.b1)
  · exact (cell_far (addr_off (by decide))).trans ((cell_far (addr_blk (by omega))).trans h.b2)
  · exact (World.frozen?_setCell _ _ _ _).trans ((World.frozen?_setCell _ _ _ _).trans h.fa)
  · exact (World.frozen?_setCell _ _ _ _).trans ((World.frozen?_setCell _ _ _ _).trans h.fb)
  · exact Nat.lt_of_lt_of_le (Nat.lt_of_lt_of_le l (set_size _ _ _)) (set_size _ _ _)
/-- Pick of a copy, at exponent nought. -/
theorem pick0 (dn : Bool) (di df : ByteArray) (h1 : di.size ≤ 140737488355328) (h2 : df.size ≤ 140737488355328) (l : List Nm) :
    ∃ a c : Int, PkC l dn di df 0 a c ∧ (c ≠ 0 ∨ (c = 0 ∧ ∃ d : Dc, d.Ok ∧ di = dStr d.i ∧ df = dStr d.f ∧ a = pkC (hitR (absX d) 0) l)) := by
  rcases pick_cases dn di df 0 h1 h2 l with ⟨c, hc, hP⟩ | ⟨-, d, x, hd, hx, -, h3, h4, -, -, ho, hP⟩
  · exact ⟨0, c, hP, .inl hc⟩
  · rw [shift_zero hd] at ho
    obtain rfl := Option.some.inj ho
    exact ⟨_, 0, hP, .inr ⟨rfl, d, hd, h3, h4, rfl⟩⟩
end
section
open Go.RowKit

def okN (x : Nm) : Prop := ∀ y ∈ x.ru.l, ∀ r ∈ y.l, opN r
set_option maxHeartbeats 8000000 in
set_option maxRecDepth 100000 in
theorem great_walk (ad : Option Addr) (n cap : Nat) (l : List Nm) (an : Bool) (ai af : ByteArray) (bn : Bool) (bi bf : ByteArray) (w : World) (hA : n ≤ cap ∧ SetG w ad n l)
    (p1 : ai.size ≤ 140737488355328) (p2 : af.size ≤ 140737488355328) (q1 : bi.size ≤ 140737488355328) (q2 : bf.size ≤ 140737488355328) (hT : TabC w) :
    Calls Tryd.prog 5 #[.agg #[.slice ad n cap], .agg #[.bool an, .string ai, .string af], .agg #[.bool bn, .string bi, .string bf]] w fun e w' => e = .returned (.bool true) ∧ Below w.heap.size w w' := by
  have DA := Lib.hid (fun wx (hx : Below w.heap.size w wx) => cawake_any wx (hT.keep hx))
  have DC := Lib.hid (fun wx (hx : Below w.heap.size w wx) => lcopy_set ad n cap l wx (hA.2.keep hx))
  have HS := Lib.hid hA.2
  have HL := Lib.hid hA.2.len
  have hm := hA.2.most
  obtain ⟨xa, ea, PA, HA⟩ := pick0 an ai af p1 p2 l
  obtain ⟨xb, eb, PB, HB⟩ := pick0 bn bi bf q1 q2 l
  have PKA := Lib.hid PA
  have PKB := Lib.hid PB
  unfold PkC at PKA PKB
  have HHA := Lib.hid HA
  have HHB := Lib.hid HB
  clear PA PB HA HB
  have K := gr_new w _ (.slice ad n cap) (.bool an) (.string ai) (.string af) (.bool bn) (.string bi) (.string bf) 45 27 rfl
  obtain ⟨W0, hW0⟩ : ∃ W0, W0 = ((w.alloc (.cells #[.slice ad n cap] 45)).alloc (.cells #[.bool an, .string ai, .string af] 27)).alloc (.cells #[.bool bn, .string bi, .string bf] 27) := ⟨_, rfl⟩
  rw [← hW0] at K
  have KG := Lib.hid K
  clear K hA hT p1 p2 q1 q2
  go_enter Tryd.func5, Tryd.ntmps5
  go_wp2_with fail
  rw [← hW0]
  clear hW0
  (with_reducible refine (DA.out _ KG.out.below).mono ?_)
  rintro e w1 ⟨rfl, hb1⟩
  have K1 := Lib.hid (KG.out.keep hb1)
  clear hb1
  obtain ⟨-, s0, -⟩ := K1.out
  go_wp2_with fail
  go_loopg [7] n (fun g s4 wr => ∃ k : Nat, k + g = n ∧ s4 = .int .i64 k ∧ Aside (wr = w1) ∧ Aside (∀ j, j < k → okN (l.getD j Nm.nil)))
  case atStart => exact ⟨0, by omega, rfl, rfl, fun j hj => absurd hj (Nat.not_lt_zero _)⟩
  case round =>
    obtain ⟨k, hk, rfl, HW, HE⟩ := hrel
    obtain rfl := HW.out
    rename World => wo
    cases gk with
    | zero =>
      have hkz : ¬ ((k : Int) < (n : Int)) := by omega
      have HALL : Hid (∀ x ∈ l, ∀ y ∈ x.ru.l, ∀ r ∈ y.l, opN r) := Lib.hid (fun x hx => by
        obtain ⟨i, hi, rfl⟩ := List.getElem_of_mem hx
        have := HE.out i (by rw [HL.out] at hi; omega)
        rwa [getD_atC Nm.nil hi] at this)
      obtain ⟨-, -, x0, x1, x2, -⟩ := K1.out
      go_wp2_with fail
      go_region_held3 (fun w' => w'.cell? ⟨w.heap.size, 0, none⟩ = some (.slice ad n cap) ∧ w'.cell? ⟨w.heap.size + 1, 0, none⟩ = some (.bool an) ∧ w'.cell? ⟨w.heap.size + 1, 1, none⟩ = some (.string ai) ∧ w'.cell? ⟨w.heap.size + 1, 2, none⟩ = some (.string af))
        (first
          | (with_reducible exact ⟨s0, x0, x1, x2⟩)
          | (with_reducible exact ⟨(drew_cell _ _).trans s0, (drew_cell _ _).trans x0, (drew_cell _ _).trans x1, (drew_cell _ _).trans x2⟩)
          | (have t := K1.out.keep hA; with_reducible exact ⟨t.s0, t.a0, t.a1, t.a2⟩)
          | (have t := K1.out.keep hP; with_reducible exact ⟨t.s0, t.a0, t.a1, t.a2⟩))
        (first
          | (go_at_call 12; (with_reducible refine (DC.out _ K1.out.below.drew).mono ?_); rintro e wA ⟨oad, ocap, bs, rfl, hbA, hcA, hSA, hFA, hCA⟩; have hA : Below wo.heap.size wo wA := undrew hbA)
          | (go_at_call 11; (with_reducible refine (PKA.out _ _ _ _ _ hSA hcA hFA hCA).mono ?_); rintro e wP ⟨rfl, hbP⟩; have hP : Below wo.heap.size wo wP := hA.trans (hbP.mono hA.size)))
      have K2 := Lib.hid (K1.out.keep hP)
      clear hA hP x0 x1 x2 s0 hSA hcA hFA hCA
      rename World => wp
      obtain ⟨-, s0, -, -, -, y0, y1, y2, -⟩ := K2.out
      go_wp2_with fail
      go_region_held3 (fun w' => w'.cell? ⟨w.heap.size, 0, none⟩ = some (.slice ad n cap) ∧ w'.cell? ⟨w.heap.size + 1 + 1, 0, none⟩ = some (.bool bn) ∧ w'.cell? ⟨w.heap.size + 1 + 1, 1, none⟩ = some (.string bi) ∧ w'.cell? ⟨w.heap.size + 1 + 1, 2, none⟩ = some (.string bf))
        (first
          | (with_reducible exact ⟨s0, y0, y1, y2⟩)
          | (with_reducible exact ⟨(drew_cell _ _).trans s0, (drew_cell _ _).trans y0, (drew_cell _ _).trans y1, (drew_cell _ _).trans y2⟩)
          | (have t := K2.out.keep hA; with_reducible exact ⟨t.s0, t.b0, t.b1, t.b2⟩)
          | (have t := K2.out.keep hP; with_reducible exact ⟨t.s0, t.b0, t.b1, t.b2⟩))
        (first
          | (go_at_call 12; (with_reducible refine (DC.out _ K2.out.below.drew).mono ?_); rintro e wA ⟨oad, ocap, bs, rfl, hbA, hcA, hSA, hFA, hCA⟩; have hA : Below wp.heap.size wp wA := undrew hbA)
          | (go_at_call 11; (with_reducible refine (PKB.out _ _ _ _ _ hSA hcA hFA hCA).mono ?_); rintro e wP ⟨rfl, hbP⟩; have hP : Below wp.heap.size wp wP := hA.trans (hbP.mono hA.size)))
      have K3 := Lib.hid (K2.out.keep hP)
      clear hA hP y0 y1 y2 s0 hSA hcA hFA hCA
      rename World => wq
      rcases HHA.out with ha | ⟨rfl, da, hda, rfl, rfl, hxa⟩
      · have q : (ea == 0) = false := beq_eq_false_iff_ne.2 ha
        go_wp2
        go_ret
        exact ⟨rfl, K3.out.below⟩
      · rcases HHB.out with hb | ⟨rfl, db, hdb, rfl, rfl, hxb⟩
        · have q : (eb == 0) = false := beq_eq_false_iff_ne.2 hb
          go_wp2
          go_ret
          exact ⟨rfl, K3.out.below⟩
        · obtain ⟨c, hc⟩ : ∃ c, c = cmpD (absX da) (absX db) := ⟨_, rfl⟩
          have DD : Hid (∀ wx : World, Calls Tryd.prog 13 #[.agg #[.bool false, .string (dStr da.i), .string (dStr da.f)], .agg #[.bool false, .string (dStr db.i), .string (dStr db.f)]] wx fun e w' => e = .returned (.tuple #[.int .i64 c, .int .i64 0]) ∧ Below wx.heap.size wx w') := Lib.hid (fun wx => by
            rw [hc]
            exact compare_ok (absX da) (absX db) wx (absX_ok hda) (absX_ok hdb))
          have HQ : Hid (c = 0 → xa = xb) := Lib.hid (fun h => by
            obtain ⟨e1, e2⟩ := trim_eq hda hdb (hc.symm.trans h)
            rw [hxa, hxb, pk_n e1 e2 HALL.out])
          clear hc
          have KN := Lib.hid (K3.out.neg (.bool false) (.bool false))
          obtain ⟨-, -, x0, x1, x2, y0, y1, y2, f0, f1, -⟩ := K3.out
          obtain ⟨-, -, u0, u1, u2, v0, v1, v2, -, -, -⟩ := KN.out
          have HXA := Lib.hid hxa
          have HXB := Lib.hid hxb
          clear hxa hxb
          go_wp2_with fail
          (with_reducible refine (DD.out _).mono ?_)
          rintro e w5 ⟨rfl, hb5⟩
          have H5 := Lib.hid (KN.out.below.trans (hb5.mono KN.out.below.size))
          clear hb5 x0 x1 x2 y0 y1 y2 u0 u1 u2 v0 v1 v2
          by_cases h0 : c = 0
          · obtain rfl := HQ.out h0
            subst h0
            go_wp2
            go_ret
            exact ⟨rfl, H5.out⟩
          · have q : (c == 0) = false := beq_eq_false_iff_ne.2 h0
            go_wp2
            go_ret
            exact ⟨rfl, H5.out⟩
    | succ g =>
      have hkz : ((k : Int) < (n : Int)) := by omega
      obtain ⟨gb, off, had, hg, hAt⟩ := (HS.out.keep K1.out.below).at_ (by omega)
      have hN := hAt k (by omega)
      obtain ⟨x, hx⟩ : ∃ x, x = l.getD k Nm.nil := ⟨_, rfl⟩
      rw [← hx] at hN
      have HXX := Lib.hid hx
      clear hx hAt
      obtain ⟨c0, c1, c2, c3, c4, c5, hru⟩ := hN
      have HO := Lib.hid hru.or
      have hrm := hru.or.most
      clear hru
      subst had
      obtain ⟨cat, ⟨ra, rn, rc, rl, ⟨a1, n1, cc1, l1⟩, ⟨a2, n2, cc2, l2⟩, mi, md⟩⟩ := x
      unfold Sg.v at *
      simp only at *
      go_wp2_with fail
      go_loopg [8] rn (fun g2 s8 wy => ∃ j : Nat, j + g2 = rn ∧ s8 = .int .i64 j ∧ Aside (wy = wo) ∧ Aside (∀ i, i < j → ∀ r ∈ (rl.getD i An.nil).l, opN r))
      case atStart => exact ⟨0, by omega, rfl, rfl, fun j hj => absurd hj (Nat.not_lt_zero _)⟩
      case round =>
        obtain ⟨j, hj, rfl, HY, HJ⟩ := hrel
        obtain rfl := HY.out
        rename World => wo
        cases gk with
        | zero =>
          have hjz : ¬ ((j : Int) < (rn : Int)) := by omega
          go_wp2
          go_roundg g
          case measure => omega
          case rel =>
            refine ⟨k + 1, by omega, by go_num, rfl, fun i hi => ?_⟩
            by_cases e : i = k
            · rw [e, ← HXX.out]
              intro y hy
              obtain ⟨m, hm', rfl⟩ := List.getElem_of_mem hy
              have hm' : m < rl.length := hm'
              have := HJ.out m (by have := HO.out.len; omega)
              rwa [getD_atC An.nil hm'] at this
            · exact HE.out i (by omega)
        | succ g2 =>
          have hjz : ((j : Int) < (rn : Int)) := by omega
          obtain ⟨gc, of2, had2, hg2, hA2⟩ := HO.out.at_ (by omega)
          obtain ⟨d0, dA⟩ := hA2 j (by omega)
          obtain ⟨y, hy0⟩ : ∃ y, y = rl.getD j An.nil := ⟨_, rfl⟩
          rw [← hy0] at d0 dA
          have HYY := Lib.hid hy0
          have HG := Lib.hid dA
          have hym := dA.most
          clear hA2 dA hy0
          subst had2
          obtain ⟨ya, yn, yc, yl⟩ := y
          unfold An.v at d0
          simp only at *
          go_wp2_with fail
          go_loopg [9] yn (fun g3 s9 wz => ∃ i : Nat, i + g3 = yn ∧ s9 = .int .i64 i ∧ Aside (wz = wo) ∧ Aside (∀ h, h < i → opN (yl.getD h Rl.nil)))
          case atStart => exact ⟨0, by omega, rfl, rfl, fun j hj => absurd hj (Nat.not_lt_zero _)⟩
          case round =>
            obtain ⟨i, hi, rfl, HZ, HI⟩ := hrel
            obtain rfl := HZ.out
            rename World => wo
            cases gk with
            | zero =>
              have hiz : ¬ ((i : Int) < (yn : Int)) := by omega
              go_wp2
              go_roundg g2
              case measure => omega
              case rel =>
                refine ⟨j + 1, by omega, by go_num, rfl, fun h hh => ?_⟩
                by_cases e : h = j
                · rw [e, ← HYY.out]
                  intro r hr
                  obtain ⟨m, hm', rfl⟩ := List.getElem_of_mem hr
                  have hm' : m < yl.length := hm'
                  have := HI.out m (by have := HG.out.len; omega)
                  rwa [getD_atC Rl.nil hm'] at this
                · exact HJ.out h (by omega)
            | succ g3 =>
              have hiz : ((i : Int) < (yn : Int)) := by omega
              obtain ⟨gd, of3, had3, hg3, hA3⟩ := HG.out.at_ (by omega)
              have hR := hA3 i (by omega)
              obtain ⟨z, hz0⟩ : ∃ z, z = yl.getD i Rl.nil := ⟨_, rfl⟩
              rw [← hz0] at hR
              have HZZ := Lib.hid hz0
              clear hA3 hz0
              subst had3
              obtain ⟨op, mo, no, wi, za, zn, zc, zl⟩ := z
              obtain ⟨e0, e1, e2, e3, e4, -, -⟩ := hR
              simp only at *
              by_cases ho : op = ⟨#[110]⟩
              · have et : (op.toList == [110]) = true := by rw [ho, Lib.toList_data]; rfl
                have HOP := Lib.hid ho
                clear ho
                go_wp2
                go_roundg g3
                case measure => omega
                case rel =>
                  refine ⟨i + 1, by omega, by go_num, rfl, fun h hh => ?_⟩
                  by_cases e : h = i
                  · rw [e, ← HZZ.out]
                    exact HOP.out
                  · exact HI.out h (by omega)
              · have et : (op.toList == [110]) = false := one_ne ho
                clear ho
                go_wp2
                go_ret
                exact ⟨rfl, K1.out.below⟩
end
end Go.Proofs.YtmggdnnffdaffaaDoor
