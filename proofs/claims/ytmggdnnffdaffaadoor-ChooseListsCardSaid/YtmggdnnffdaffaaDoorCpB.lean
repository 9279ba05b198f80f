/- The reference's Copy of a rule: its walk. -/
import Derived.Test.YtmggdnnffdaffaaDoorMkE
import Derived.Test.YtmggdnnffdaffaaDoorCpA
namespace Go.Proofs.YtmggdnnffdaffaaDoor
open Go.RowKit

theorem samp_info : (Tryd.prog.info? 93).map (fun i => (i.zero, i.size, i.bytes)) = some (some (.agg #[.string ⟨#[]⟩, .string ⟨#[]⟩]), 2, 32) := by kernel_rfl
theorem spn_info : (Tryd.prog.info? 76).map (fun i => (i.zero, i.size, i.bytes)) = some (some (.agg #[.string ⟨#[]⟩, .string ⟨#[]⟩]), 2, 32) := by kernel_rfl
theorem rel_info : (Tryd.prog.info? 40).map (fun i => (i.zero, i.size, i.bytes)) = some (some (.agg #[.string ⟨#[]⟩, .string ⟨#[]⟩, .bool false, .bool false, .slice none 0 0]), 5, 64) := by kernel_rfl
theorem and_info : (Tryd.prog.info? 37).map (fun i => (i.zero, i.size, i.bytes)) = some (some (.slice none 0 0), 1, 24) := by kernel_rfl

/-- A box of five cells that may be written. -/
structure Bw5 (W : World) (q : Nat) (x0 x1 x2 x3 x4 : Value) : Prop where
  b : Bq5 W q x0 x1 x2 x3 x4
  fz : ∀ i, W.frozen? ⟨q, i, none⟩ = false
theorem Bw5.keep {W w' : World} {q : Nat} {x0 x1 x2 x3 x4 : Value} (h : Bw5 W q x0 x1 x2 x3 x4) (k : Below W.heap.size W w') : Bw5 w' q x0 x1 x2 x3 x4 :=
  ⟨h.b.keep k, fun i => (k.frozen (p := ⟨q, i, none⟩) h.b.lt).trans (h.fz i)⟩
theorem bw5_new (w : World) (x0 x1 x2 x3 x4 : Value) (t : TypeId) : Bw5 (w.alloc (.cells #[x0, x1, x2, x3, x4] t)) w.heap.size x0 x1 x2 x3 x4 := ⟨bq5_new w x0 x1 x2 x3 x4 t, fun i => by simp⟩
theorem cell_far {W : World} {q i : Nat} {u : Value} {a : Addr} (h : a ≠ ⟨q, i, none⟩) : (W.setCell ⟨q, i, none⟩ u).cell? a = W.cell? a := World.cell?_setCell_other _ _ _ _ (Ne.symm h)
theorem set_size (W : World) (p : Addr) (u : Value) : W.heap.size ≤ (W.setCell p u).heap.size := ((Below.refl 0 W).setCell (Nat.zero_le _) u).size
theorem addr_off {q i j : Nat} (h : j ≠ i) : (⟨q, j, none⟩ : Addr) ≠ ⟨q, i, none⟩ := fun e => h (congrArg Addr.off e)
theorem addr_blk {q b i j : Nat} (h : b ≠ q) : (⟨b, j, none⟩ : Addr) ≠ ⟨q, i, none⟩ := fun e => h (congrArg Addr.block e)
theorem Bw5.far {W : World} {q b i : Nat} {x0 x1 x2 x3 x4 u : Value} (h : Bw5 W b x0 x1 x2 x3 x4) (hn : b ≠ q) : Bw5 (W.setCell ⟨q, i, none⟩ u) b x0 x1 x2 x3 x4 :=
  ⟨⟨(cell_far (addr_blk hn)).trans h.b.c0, (cell_far (addr_blk hn)).trans h.b.c1, (cell_far (addr_blk hn)).trans h.b.c2, (cell_far (addr_blk hn)).trans h.b.c3, (cell_far (addr_blk hn)).trans h.b.c4, Nat.lt_of_lt_of_le h.b.lt (set_size _ _ _)⟩,
   fun j => (World.frozen?_setCell _ _ _ _).trans (h.fz j)⟩
theorem set_here {W : World} {q i : Nat} {u v : Value} (h : W.cell? ⟨q, i, none⟩ = some v) : (W.setCell ⟨q, i, none⟩ u).cell? ⟨q, i, none⟩ = some u := by
  exact World.cell?_setCell_same _ _ _ h
theorem Bw5.set0 {W : World} {q : Nat} {x0 x1 x2 x3 x4 u : Value} (h : Bw5 W q x0 x1 x2 x3 x4) : Bw5 (W.setCell ⟨q, 0, none⟩ u) q u x1 x2 x3 x4 :=
  ⟨⟨set_here h.b.c0, (cell_far (addr_off (by decide))).trans h.b.c1, (cell_far (addr_off (by decide))).trans h.b.c2, (cell_far (addr_off (by decide))).trans h.b.c3, (cell_far (addr_off (by decide))).trans h.b.c4, Nat.lt_of_lt_of_le h.b.lt (set_size _ _ _)⟩,
   fun j => (World.frozen?_setCell _ _ _ _).trans (h.fz j)⟩
theorem Bw5.set1 {W : World} {q : Nat} {x0 x1 x2 x3 x4 u : Value} (h : Bw5 W q x0 x1 x2 x3 x4) : Bw5 (W.setCell ⟨q, 1, none⟩ u) q x0 u x2 x3 x4 :=
  ⟨⟨(cell_far (addr_off (by decide))).trans h.b.c0, set_here h.b.c1, (cell_far (addr_off (by decide))).trans h.b.c2, (cell_far (addr_off (by decide))).trans h.b.c3, (cell_far (addr_off (by decide))).trans h.b.c4, Nat.lt_of_lt_of_le h.b.lt (set_size _ _ _)⟩,
   fun j => (World.frozen?_setCell _ _ _ _).trans (h.fz j)⟩
theorem Bw5.set2 {W : World} {q : Nat} {x0 x1 x2 x3 x4 u : Value} (h : Bw5 W q x0 x1 x2 x3 x4) : Bw5 (W.setCell ⟨q, 2, none⟩ u) q x0 x1 u x3 x4 :=
  ⟨⟨(cell_far (addr_off (by decide))).trans h.b.c0, (cell_far (addr_off (by decide))).trans h.b.c1, set_here h.b.c2, (cell_far (addr_off (by decide))).trans h.b.c3, (cell_far (addr_off (by decide))).trans h.b.c4, Nat.lt_of_lt_of_le h.b.lt (set_size _ _ _)⟩,
   fun j => (World.frozen?_setCell _ _ _ _).trans (h.fz j)⟩
theorem Bw5.set4 {W : World} {q : Nat} {x0 x1 x2 x3 x4 u : Value} (h : Bw5 W q x0 x1 x2 x3 x4) : Bw5 (W.setCell ⟨q, 4, none⟩ u) q x0 x1 x2 x3 u :=
  ⟨⟨(cell_far (addr_off (by decide))).trans h.b.c0, (cell_far (addr_off (by decide))).trans h.b.c1, (cell_far (addr_off (by decide))).trans h.b.c2, (cell_far (addr_off (by decide))).trans h.b.c3, set_here h.b.c4, Nat.lt_of_lt_of_le h.b.lt (set_size _ _ _)⟩,
   fun j => (World.frozen?_setCell _ _ _ _).trans (h.fz j)⟩
theorem TyB.set {W : World} {g q i : Nat} {t : TypeId} {u : Value} (h : TyB W g t) (hn : g ≠ q) : TyB (W.setCell ⟨q, i, none⟩ u) g t := by
  obtain ⟨cur, h⟩ := h
  exact ⟨cur, (Below.heap_setCell W ⟨q, i, none⟩ u g hn).trans h⟩
theorem TyB.setSame {W : World} {q i : Nat} {t : TypeId} {u : Value} (h : TyB W q t) : TyB (W.setCell ⟨q, i, none⟩ u) q t := by
  obtain ⟨cur, h⟩ := h
  exact ⟨_, heap_setCell_same W q i cur t u h⟩
theorem SpnF.set {W : World} {te : TypeId} {ad : Option Addr} {n q i : Nat} {u : Value} {l : List (ByteArray × ByteArray)} (h : SpnF W te ad n l) (hn : ∀ g, TyB W g te → g ≠ q) : SpnF (W.setCell ⟨q, i, none⟩ u) te ad n l := fun h0 => by
  obtain ⟨g, h1, h2, h3⟩ := h h0
  have hg := hn g h2
  exact ⟨g, h1, h2.set hg, fun k hk => ⟨(cell_far (addr_blk hg)).trans (h3 k hk).1, (cell_far (addr_blk hg)).trans (h3 k hk).2⟩⟩

theorem three_bq (w : World) (x0 x1 x2 x3 x4 y0 y1 y2 y3 y4 z0 z1 z2 z3 z4 : Value) (t : TypeId) (W3 : World) (hW : W3 = ((w.alloc (.cells #[x0, x1, x2, x3, x4] t)).alloc (.cells #[y0, y1, y2, y3, y4] t)).alloc (.cells #[z0, z1, z2, z3, z4] t)) :
    Below w.heap.size w W3 ∧ W3.heap.size = w.heap.size + 1 + 1 + 1 ∧ Bw5 W3 w.heap.size x0 x1 x2 x3 x4 ∧ Bw5 W3 (w.heap.size + 1) y0 y1 y2 y3 y4 ∧ Bw5 W3 (w.heap.size + 1 + 1) z0 z1 z2 z3 z4 ∧ TyB W3 (w.heap.size + 1 + 1) t ∧ TyB W3 (w.heap.size + 1) t := by
  obtain ⟨w1, h1⟩ : ∃ w1, w1 = w.alloc (.cells #[x0, x1, x2, x3, x4] t) := ⟨_, rfl⟩
  obtain ⟨w2, h2⟩ : ∃ w2, w2 = w1.alloc (.cells #[y0, y1, y2, y3, y4] t) := ⟨_, rfl⟩
  rw [← h1, ← h2] at hW
  have s1 : w1.heap.size = w.heap.size + 1 := by rw [h1]; simp
  have s2 : w2.heap.size = w.heap.size + 1 + 1 := by rw [h2]; simp [s1]
  have s3 : W3.heap.size = w.heap.size + 1 + 1 + 1 := by rw [hW]; simp [s2]
  have b1 : Below w.heap.size w w1 := by rw [h1]; exact (Below.refl _ _).alloc (Nat.le_refl _) _
  have b2 : Below w1.heap.size w1 w2 := by rw [h2]; exact (Below.refl _ _).alloc (Nat.le_refl _) _
  have b3 : Below w2.heap.size w2 W3 := by rw [hW]; exact (Below.refl _ _).alloc (Nat.le_refl _) _
  have n1 := bw5_new w x0 x1 x2 x3 x4 t
  rw [← h1] at n1
  have n2 := bw5_new w1 y0 y1 y2 y3 y4 t
  rw [← h2, s1] at n2
  have n3 := bw5_new w2 z0 z1 z2 z3 z4 t
  rw [← hW, s2] at n3
  have t3 := TyB.new w2 #[z0, z1, z2, z3, z4] t
  rw [← hW, s2] at t3
  have t2 := TyB.new w1 #[y0, y1, y2, y3, y4] t
  rw [← h2, s1] at t2
  have b12 := b2.trans (b3.mono b2.size)
  exact ⟨b1.trans (b12.mono b1.size), s3, n1.keep b12, n2.keep b3, n3, t3, t2.keep b3⟩

/-- A list of relations without where it lies. -/
def An.e (a : An) : Nat × List (ByteArray × ByteArray × Bool × Bool × Nat × List (ByteArray × ByteArray)) := (a.n, a.l.map Rl.e)
/-- Between two rounds of the outer loop. -/
structure CpO (w : World) (rv s1v s2v s3v x1 x2 : Value) (mi md : Bool) (a1 a2 : Option Addr) (n1 n2 : Nat) (l1 l2 : List (ByteArray × ByteArray)) (wr : World) (ov : Value) (bs : List An) : Prop where
  below : Below w.heap.size w wr
  kr : Bw5 wr w.heap.size rv s1v s2v (.bool mi) (.bool md)
  ks : Bw5 wr (w.heap.size + 1) (.slice none 0 0) (.slice none 0 0) (.slice none 0 0) (.bool false) (.bool false)
  ko : Bw5 wr (w.heap.size + 1 + 1) ov x1 x2 (.bool mi) (.bool md)
  kt : TyB wr (w.heap.size + 1 + 1) 25
  kt2 : TyB wr (w.heap.size + 1) 25
  own : wr.ownsRow (w.heap.size + 1 + 1 + 1) 37 1 ov bs.length (bs.map An.v)
  ands : ∀ b ∈ bs, CpA wr b
  f1 : SpnF wr 93 a1 n1 l1
  f2 : SpnF wr 93 a2 n2 l2
theorem own_keep {B : Nat} {t : TypeId} {sz : Nat} {v : Value} {n : Nat} {xs : List Value} {W W' : World} (h : W.ownsRow B t sz v n xs) (hb : Below W.heap.size W W') : W'.ownsRow B t sz v n xs := by
  refine ⟨h.1, ?_⟩
  rcases h.2 with h0 | ⟨g, cap, cur, h1, h2, h3, h4⟩
  · exact .inl h0
  · exact .inr ⟨g, cap, cur, h1, h2, (hb.block g (Array.getElem?_eq_some_iff.1 h3).1).trans h3, h4⟩
theorem CpO.keep {w : World} {rv s1v s2v s3v x1 x2 : Value} {mi md : Bool} {a1 a2 : Option Addr} {n1 n2 : Nat} {l1 l2 : List (ByteArray × ByteArray)} {wr w' : World} {ov : Value} {bs : List An} (h : CpO w rv s1v s2v s3v x1 x2 mi md a1 a2 n1 n2 l1 l2 wr ov bs) (hb : Below wr.heap.size wr w') :
    CpO w rv s1v s2v s3v x1 x2 mi md a1 a2 n1 n2 l1 l2 w' ov bs :=
  ⟨h.below.trans (hb.mono h.below.size), h.kr.keep hb, h.ks.keep hb, h.ko.keep hb, h.kt.keep hb, h.kt2.keep hb, own_keep h.own hb, fun b hb' => (h.ands b hb').keep hb, h.f1.keep hb, h.f2.keep hb⟩
theorem own_ty {B : Nat} {t : TypeId} {sz : Nat} {v : Value} {n k : Nat} {xs : List Value} {W : World} (h : W.ownsRow B t sz v n xs) (hk : v.ownBlock = some k) : TyB W k t := by
  rcases h.2 with ⟨rfl, -⟩ | ⟨g, cap, cur, rfl, h2, h3, h4⟩
  · cases hk
  · obtain rfl : g = k := Option.some.inj hk
    exact ⟨cur, h3⟩
theorem grown_set (W : World) (q i : Nat) (u : Value) : W.grownBy (W.setCell ⟨q, i, none⟩ u) (some q) := by
  have hB : Below 0 W (W.setCell ⟨q, i, none⟩ u) := (Below.refl 0 W).setCell (Nat.zero_le _) u
  exact ⟨hB.os, hB.tape, hB.output, hB.size, fun k _ hk => Below.heap_setCell W ⟨q, i, none⟩ u k (fun e => hk (by rw [e]))⟩
theorem Bw5.grown {W W' : World} {q : Nat} {x0 x1 x2 x3 x4 : Value} {row : Option Nat} (h : Bw5 W q x0 x1 x2 x3 x4) (hg : W.grownBy W' row) (hr : some q ≠ row) : Bw5 W' q x0 x1 x2 x3 x4 := by
  have e := hg.block q h.b.lt hr
  exact ⟨⟨(World.cell?_of_block (a := ⟨q, 0, none⟩) e).trans h.b.c0, (World.cell?_of_block (a := ⟨q, 1, none⟩) e).trans h.b.c1, (World.cell?_of_block (a := ⟨q, 2, none⟩) e).trans h.b.c2, (World.cell?_of_block (a := ⟨q, 3, none⟩) e).trans h.b.c3,
    (World.cell?_of_block (a := ⟨q, 4, none⟩) e).trans h.b.c4, Nat.lt_of_lt_of_le h.b.lt hg.size⟩, fun i => (World.frozen?_of_block (a := ⟨q, i, none⟩) e).trans (h.fz i)⟩
theorem SpnF.grown {W W' : World} {te : TypeId} {ad : Option Addr} {n : Nat} {l : List (ByteArray × ByteArray)} {row : Option Nat} (h : SpnF W te ad n l) (hg : W.grownBy W' row) (hr : ∀ k, row = some k → ∃ t, t ≠ te ∧ TyB W k t) : SpnF W' te ad n l := fun hn => by
  obtain ⟨g, h1, h2, h3⟩ := h hn
  have hne : some g ≠ row := fun e => by
    obtain ⟨t, ht, hk⟩ := hr g e.symm
    exact h2.other hk (fun e => ht e.symm) rfl
  exact ⟨g, h1, h2.grown hg hne, h3.grown h2.lt hg hne⟩
theorem CpO.step {w : World} {rv s1v s2v s3v x1 x2 : Value} {mi md : Bool} {a1 a2 : Option Addr} {n1 n2 : Nat} {l1 l2 : List (ByteArray × ByteArray)} {W7 w6 : World} {ov v' : Value} {bs : List An} {a : An} (h : CpO w rv s1v s2v s3v x1 x2 mi md a1 a2 n1 n2 l1 l2 W7 ov bs)
    (hA : CpA W7 a) (hown : w6.ownsRow (w.heap.size + 1 + 1 + 1) 37 1 v' (bs.length + 1) (bs.map An.v ++ [a.v])) (hgr : W7.grownBy w6 ov.ownBlock) :
    CpO w rv s1v s2v s3v x1 x2 mi md a1 a2 n1 n2 l1 l2 (w6.setCell ⟨w.heap.size + 1 + 1, 0, none⟩ v') v' (bs ++ [a]) := by
  have lt := fun q e => (h.own.lt q e).1
  have ne : ∀ q, q < w.heap.size + 1 + 1 + 1 → some q ≠ ov.ownBlock := fun q hq e => by have := lt q e.symm; omega
  have ty := fun q (e : ov.ownBlock = some q) => own_ty h.own e
  have b6 : Below w.heap.size w w6 := h.below.grown hgr h.below.size (fun q e => by have := lt q e; omega)
  have kt6 := h.kt.grown hgr (ne _ (by omega))
  have gs := grown_set w6 (w.heap.size + 1 + 1) 0 v'
  refine ⟨b6.setCell (p := ⟨w.heap.size + 1 + 1, 0, none⟩) (by show w.heap.size ≤ w.heap.size + 1 + 1; omega) _, (h.kr.grown hgr (ne _ (by omega))).far (by omega), (h.ks.grown hgr (ne _ (by omega))).far (by omega), (h.ko.grown hgr (ne _ (by omega))).set0, TyB.setSame kt6, (h.kt2.grown hgr (ne _ (by omega))).set (by omega), ?_, ?_,
    (h.f1.grown hgr (fun k e => ⟨_, by decide, ty k e⟩)).grown gs (fun k e => by cases e; exact ⟨_, by decide, kt6⟩), (h.f2.grown hgr (fun k e => ⟨_, by decide, ty k e⟩)).grown gs (fun k e => by cases e; exact ⟨_, by decide, kt6⟩)⟩
  · rw [List.length_append, List.map_append]
    exact hown.kept gs (by
      cases hv : v'.ownBlock with
      | none => exact .inl rfl
      | some q => exact .inr (fun e => by have := (hown.lt q hv).1; have e2 := Option.some.inj e; omega))
  · intro b hb
    have h7 : CpA W7 b := by
      rcases List.mem_append.1 hb with h8 | h8
      · exact h.ands b h8
      · obtain rfl := List.mem_singleton.1 h8; exact hA
    exact (h7.grown hgr (fun k e => ⟨_, by decide, by decide, ty k e⟩)).grown gs (fun k e => by cases e; exact ⟨_, by decide, by decide, kt6⟩)
/-- Between two rounds of the inner loop. -/
structure CpI (wo wr : World) (av : Value) (rs : List Rl) : Prop where
  below : Below wo.heap.size wo wr
  own : wr.ownsRow wo.heap.size 40 5 av rs.length (flatL rs)
  rs : ∀ r ∈ rs, CpR wr r

theorem CpI.an {wo wr : World} {av : Value} {rs : List Rl} (h : CpI wo wr av rs) : ∃ a : An, av = a.v ∧ a.l = rs ∧ a.n = rs.length ∧ CpA wr a := by
  rcases h.own.2 with ⟨h1, h0⟩ | ⟨g, cap, cur, h1, h2, h3, h4, h5, h6⟩
  · exact ⟨⟨none, 0, 0, rs⟩, h1, rfl, h0.symm, ⟨Nat.le_refl _, h0, fun hn => absurd rfl hn, h.rs⟩⟩
  · have ho := h.own
    rw [h1] at ho
    refine ⟨⟨some ⟨g, 0, none⟩, rs.length, cap, rs⟩, h1, rfl, rfl, ⟨h4, rfl, fun _ => ⟨g, rfl, ⟨cur, h3⟩, fun k hk i hi => ?_⟩, h.rs⟩⟩
    have hk2 : k < rs.length := hk
    rw [ho.cellAt (k * 5 + i) (by omega), flatL_at rs k i hk2 hi]

theorem e_at {a y : An} (h : a.e = y.e) (k : Nat) (hk : k < y.l.length) : a.n = y.n ∧ a.l.length = y.l.length ∧ (a.l.getD k Rl.nil).e = (y.l.getD k Rl.nil).e := by
  unfold An.e at h
  simp only [Prod.mk.injEq] at h
  have hl : a.l.length = y.l.length := by
    have := congrArg List.length h.2
    simpa using this
  refine ⟨h.1, hl, ?_⟩
  have := congrArg (fun z => z[k]?) h.2
  simp only [List.getElem?_map] at this
  rw [List.getElem?_eq_getElem hk, List.getElem?_eq_getElem (by omega)] at this
  rw [getD_atC Rl.nil hk, getD_atC Rl.nil (by omega)]
  exact Option.some.inj this
/-- What a copied relation must bear for In. -/
def Rl.Fc (x : Rl) : Prop := x.l.length = x.n ∧ (x.n ≠ 0 → ∃ g, x.ad = some ⟨g, 0, none⟩) ∧ x.mo.size ≤ 140737488355328
/-- What a copied relation bears, where the first one may be read. -/
theorem CpR.rel {W W0 : World} {r x : Rl} (h : CpR W r) (he : r.e = x.e) {g o : Nat} (hx : RelAt W0 g o x) : SpnG W r.ad r.n r.l ∧ r.Fc := by
  unfold Rl.e at he
  simp only [Prod.mk.injEq] at he
  obtain ⟨-, hm, -, -, hn, hl⟩ := he
  refine ⟨⟨h.len, by rw [hn]; exact hx.li.most, fun h0 => ?_, fun k => by rw [hl]; exact hx.li.sz k⟩, h.len, fun h0 => ?_, by rw [hm]; exact hx.ms⟩
  · obtain ⟨g, h1, h2, h3⟩ := h.at_ h0
    exact ⟨g, 0, h1, h2.lt, h3⟩
  · obtain ⟨g, h1, -, -⟩ := h.at_ h0
    exact ⟨g, h1⟩
theorem CpA.and {W W0 : World} {a y : An} (h : CpA W a) (he : a.e = y.e) (hy : AndG W0 y.ad y.n y.l) : AndG W a.ad a.n a.l ∧ ∀ r ∈ a.l, r.Fc := by
  have hn : a.n = y.n := by unfold An.e at he; simp only [Prod.mk.injEq] at he; exact he.1
  by_cases h0 : y.n = 0
  · have hl : a.l = [] := List.eq_nil_of_length_eq_zero (by rw [h.len, hn, h0])
    exact ⟨⟨h.len, by rw [hn, h0]; decide, fun hc => absurd (hn.trans h0) hc⟩, fun r hr => by rw [hl] at hr; cases hr⟩
  · obtain ⟨g0, o0, -, -, hR⟩ := hy.at_ h0
    obtain ⟨g, h1, h2, h3⟩ := h.at_ (by rw [hn]; exact h0)
    have each : ∀ k, k < a.n → SpnG W (a.l.getD k Rl.nil).ad (a.l.getD k Rl.nil).n (a.l.getD k Rl.nil).l ∧ (a.l.getD k Rl.nil).Fc ∧ (a.l.getD k Rl.nil).mo.size ≤ 140737488355328 := fun k hk => by
      have hk2 : k < y.l.length := by rw [hy.len]; omega
      obtain ⟨-, hl, e2⟩ := e_at he k hk2
      have hm : a.l.getD k Rl.nil ∈ a.l := getD_memC Rl.nil (by omega)
      obtain ⟨p1, p2⟩ := (h.rs _ hm).rel e2 (hR k (by omega))
      exact ⟨p1, p2, p2.2.2⟩
    refine ⟨⟨h.len, by rw [hn]; exact hy.most, fun _ => ⟨g, 0, h1, h2.lt, fun k hk => ?_⟩⟩, fun r hr => ?_⟩
    · obtain ⟨p1, -, p3⟩ := each k hk
      have c := fun i hi => h3 k hk i hi
      refine ⟨?_, ?_, ?_, ?_, ?_, p1, p3⟩
      · have := c 0 (by decide); rw [Nat.zero_add]; exact this
      · have := c 1 (by decide); rw [Nat.zero_add]; exact this
      · have := c 2 (by decide); rw [Nat.zero_add]; exact this
      · have := c 3 (by decide); rw [Nat.zero_add]; exact this
      · have := c 4 (by decide); rw [Nat.zero_add]; exact this
    · obtain ⟨k, hk, rfl⟩ := List.getElem_of_mem hr
      have := (each k (by rw [← h.len]; exact hk)).2.1
      rwa [getD_atC Rl.nil hk] at this
/-- What lists of relations bear that were copied. -/
theorem or_done {W W0 : World} {B : Nat} {ov : Value} {bs l : List An} {ad : Option Addr} {n : Nat} (hown : W.ownsRow B 37 1 ov bs.length (bs.map An.v)) (hA : ∀ b ∈ bs, CpA W b) (he : bs.map An.e = l.map An.e) (hx : OrG W0 ad n l) :
    ∃ oad ocap, ov = .slice oad n ocap ∧ n ≤ ocap ∧ OrG W oad n bs ∧ ∀ a ∈ bs, ∀ r ∈ a.l, r.Fc := by
  have hl : bs.length = n := by
    have := congrArg List.length he
    rw [List.length_map, List.length_map, hx.len] at this
    exact this
  have each : ∀ k, k < n → AndG W (bs.getD k An.nil).ad (bs.getD k An.nil).n (bs.getD k An.nil).l ∧ ∀ r ∈ (bs.getD k An.nil).l, r.Fc := fun k hk => by
    obtain ⟨g0, o0, -, -, hR⟩ := hx.at_ (by omega)
    have e2 : (bs.getD k An.nil).e = (l.getD k An.nil).e := by
      have := congrArg (fun z => z[k]?) he
      simp only [List.getElem?_map] at this
      rw [List.getElem?_eq_getElem (by omega), List.getElem?_eq_getElem (by rw [hx.len]; omega)] at this
      rw [getD_atC An.nil (by omega), getD_atC An.nil (by rw [hx.len]; omega)]
      exact Option.some.inj this
    exact (hA _ (getD_memC An.nil (by omega))).and e2 (hR k hk).2
  have hF : ∀ a ∈ bs, ∀ r ∈ a.l, r.Fc := fun a ha => by
    obtain ⟨k, hk, rfl⟩ := List.getElem_of_mem ha
    have := (each k (by omega)).2
    rwa [getD_atC An.nil hk] at this
  rcases hown.2 with ⟨rfl, h0⟩ | ⟨g, cap, cur, h1, h2, h3, h4, h5, h6⟩
  · exact ⟨none, 0, by rw [← hl, h0], by omega, ⟨hl, hx.most, fun hn => absurd (hl.symm.trans h0) hn⟩, hF⟩
  · have ho := hown
    rw [h1] at ho
    refine ⟨some ⟨g, 0, none⟩, cap, by rw [h1, hl], by omega, ⟨hl, hx.most, fun _ => ⟨g, 0, rfl, (Array.getElem?_eq_some_iff.1 h3).1, fun k hk => ⟨?_, (each k hk).1⟩⟩⟩, hF⟩
    have := ho.cellAt k (by omega)
    rw [Nat.zero_add, this, List.getElem?_map, List.getElem?_eq_getElem (by omega), getD_atC An.nil (by omega)]
    rfl

theorem grown_trans {x y z : World} {row : Option Nat} (h : x.grownBy y row) (k : y.grownBy z row) : x.grownBy z row :=
  ⟨k.os.trans h.os, k.tape.trans h.tape, k.output.trans h.output, Nat.le_trans h.size k.size, fun i hi hr => (k.block i (Nat.lt_of_lt_of_le hi h.size) hr).trans (h.block i hi hr)⟩
theorem Bw5.set3 {W : World} {q : Nat} {x0 x1 x2 x3 x4 u : Value} (h : Bw5 W q x0 x1 x2 x3 x4) : Bw5 (W.setCell ⟨q, 3, none⟩ u) q x0 x1 x2 u x4 :=
  ⟨⟨(cell_far (addr_off (by decide))).trans h.b.c0, (cell_far (addr_off (by decide))).trans h.b.c1, (cell_far (addr_off (by decide))).trans h.b.c2, set_here h.b.c3, (cell_far (addr_off (by decide))).trans h.b.c4, Nat.lt_of_lt_of_le h.b.lt (set_size _ _ _)⟩,
   fun j => (World.frozen?_setCell _ _ _ _).trans (h.fz j)⟩
/-- One rule is another one in memory of its own. -/
structure RuC (x y : Ru) : Prop where
  fine : ∀ a ∈ y.l, ∀ r ∈ a.l, r.Fc
  or : y.l.map An.e = x.l.map An.e
  n : y.n = x.n
  cap : y.n ≤ y.cap
  si : y.si.n = x.si.n ∧ y.si.l = x.si.l ∧ y.si.n ≤ y.si.cap
  sd : y.sd.n = x.sd.n ∧ y.sd.l = x.sd.l ∧ y.sd.n ≤ y.sd.cap
  mi : y.mi = x.mi
  md : y.md = x.md
def setR (W : World) (q : Nat) (y0 y1 y2 y3 y4 : Value) : World := ((((W.setCell ⟨q, 0, none⟩ y0).setCell ⟨q, 1, none⟩ y1).setCell ⟨q, 2, none⟩ y2).setCell ⟨q, 3, none⟩ y3).setCell ⟨q, 4, none⟩ y4
theorem setR_grown (W : World) (q : Nat) (y0 y1 y2 y3 y4 : Value) : W.grownBy (setR W q y0 y1 y2 y3 y4) (some q) :=
  grown_trans (grown_trans (grown_trans (grown_trans (grown_set W q 0 y0) (grown_set _ q 1 y1)) (grown_set _ q 2 y2)) (grown_set _ q 3 y3)) (grown_set _ q 4 y4)
theorem setR_at {W : World} {q : Nat} {x0 x1 x2 x3 x4 : Value} (h : Bw5 W q x0 x1 x2 x3 x4) (y0 y1 y2 y3 y4 : Value) : Bw5 (setR W q y0 y1 y2 y3 y4) q y0 y1 y2 y3 y4 := h.set0.set1.set2.set3.set4
theorem SpnF.spn {W W0 : World} {te : TypeId} {ad ad0 : Option Addr} {n : Nat} {l : List (ByteArray × ByteArray)} (h : SpnF W te ad n l) (h0 : SpnG W0 ad0 n l) : SpnG W ad n l :=
  ⟨h0.len, h0.most, fun hn => by
    obtain ⟨g, h1, h2, h3⟩ := h hn
    exact ⟨g, 0, h1, h2.lt, h3⟩, h0.sz⟩
/-- A copied rule, each of whose blocks is of its type. -/
structure RuT (W : World) (y : Ru) : Prop where
  or : y.n ≠ 0 → ∃ g, y.ad = some ⟨g, 0, none⟩ ∧ TyB W g 37 ∧ ∀ k, k < y.n → W.cell? ⟨g, k, none⟩ = some (y.l.getD k An.nil).v
  an : ∀ a ∈ y.l, CpA W a
  si : SpnF W 93 y.si.ad y.si.n y.si.l
  sd : SpnF W 93 y.sd.ad y.sd.n y.sd.l
theorem RuT.keep {W w' : World} {y : Ru} (h : RuT W y) (hb : Below W.heap.size W w') : RuT w' y :=
  ⟨fun hn => by
    obtain ⟨g, h1, h2, h3⟩ := h.or hn
    exact ⟨g, h1, h2.keep hb, fun k hk => (hb.cell (p := ⟨g, k, none⟩) h2.lt).trans (h3 k hk)⟩, fun a ha => (h.an a ha).keep hb, h.si.keep hb, h.sd.keep hb⟩
theorem RuT.grown {W W' : World} {y : Ru} {row : Option Nat} (h : RuT W y) (hg : W.grownBy W' row) (hr : ∀ k, row = some k → ∃ t, t ≠ 76 ∧ t ≠ 40 ∧ t ≠ 37 ∧ t ≠ 93 ∧ TyB W k t) : RuT W' y :=
  ⟨fun hn => by
    obtain ⟨g, h1, h2, h3⟩ := h.or hn
    have hne : some g ≠ row := fun e => by
      obtain ⟨t, _, _, ht, _, hk⟩ := hr g e.symm
      exact h2.other hk (fun e => ht e.symm) rfl
    exact ⟨g, h1, h2.grown hg hne, fun k hk => (World.cell?_of_block (a := ⟨g, k, none⟩) (hg.block g h2.lt hne)).trans (h3 k hk)⟩,
   fun a ha => (h.an a ha).grown hg (fun k e => by obtain ⟨t, t1, t2, _, _, t5⟩ := hr k e; exact ⟨t, t1, t2, t5⟩),
   h.si.grown hg (fun k e => by obtain ⟨t, _, _, _, t4, t5⟩ := hr k e; exact ⟨t, t4, t5⟩),
   h.sd.grown hg (fun k e => by obtain ⟨t, _, _, _, t4, t5⟩ := hr k e; exact ⟨t, t4, t5⟩)⟩
/-- What is copied lies in memory as what it was copied from did. -/
theorem RuT.ru {W W0 : World} {x y : Ru} (h : RuT W y) (hc : RuC x y) (hx : RuG W0 x) : RuG W y := by
  have hl : y.l.length = y.n := by
    have := congrArg List.length hc.or
    rw [List.length_map, List.length_map, hx.or.len] at this
    rw [this, hc.n]
  refine ⟨⟨hl, by rw [hc.n]; exact hx.or.most, fun hn => ?_⟩, ?_, ?_⟩
  · obtain ⟨g, h1, h2, h3⟩ := h.or hn
    refine ⟨g, 0, h1, h2.lt, fun k hk => ⟨by rw [Nat.zero_add]; exact h3 k hk, ?_⟩⟩
    obtain ⟨g0, o0, -, -, hR⟩ := hx.or.at_ (by rw [← hc.n]; exact hn)
    have hkx : k < x.l.length := by rw [hx.or.len, ← hc.n]; exact hk
    have e2 : (y.l.getD k An.nil).e = (x.l.getD k An.nil).e := by
      have := congrArg (fun z => z[k]?) hc.or
      simp only [List.getElem?_map] at this
      rw [List.getElem?_eq_getElem (by omega), List.getElem?_eq_getElem hkx] at this
      rw [getD_atC An.nil (by omega), getD_atC An.nil hkx]
      exact Option.some.inj this
    exact ((h.an _ (getD_memC An.nil (by omega))).and e2 (hR k (by rw [← hc.n]; exact hk)).2).1
  · have := hx.si
    rw [← hc.si.1, ← hc.si.2.1] at this
    exact h.si.spn this
  · have := hx.sd
    rw [← hc.sd.1, ← hc.sd.2.1] at this
    exact h.sd.spn this
theorem own_or {W : World} {B n cap : Nat} {ad : Option Addr} {bs : List An} (h : W.ownsRow B 37 1 (.slice ad n cap) bs.length (bs.map An.v)) (hn : n ≠ 0) : ∃ g, ad = some ⟨g, 0, none⟩ ∧ TyB W g 37 ∧ ∀ k, k < n → W.cell? ⟨g, k, none⟩ = some (bs.getD k An.nil).v := by
  rcases h.2 with ⟨h0, -⟩ | ⟨g, c, cur, h1, h2, h3, h4, h5, h6⟩
  · simp only [Value.slice.injEq] at h0
    exact absurd h0.2.1 hn
  · have ho := h
    simp only [Value.slice.injEq] at h1
    obtain ⟨rfl, rfl, rfl⟩ := h1
    refine ⟨g, rfl, ⟨cur, h3⟩, fun k hk => ?_⟩
    have := h.cellAt k (by omega)
    rw [this, List.getElem?_map, List.getElem?_eq_getElem (by omega), getD_atC An.nil (by omega)]
    rfl
/-- At the end of Copy. -/
theorem CpO.done {w : World} {rv s1v s2v s3v x1 x2 : Value} {mi md : Bool} {a1 a2 ad1 ad2 ad : Option Addr} {n n1 n2 c1 c2 cap cap1 cap2 : Nat} {l1 l2 : List (ByteArray × ByteArray)} {l : List An} {wr : World} {ov : Value} {bs : List An} (h : CpO w rv s1v s2v s3v x1 x2 mi md ad1 ad2 n1 n2 l1 l2 wr ov bs)
    (hX : RuG w ⟨ad, n, cap, l, ⟨a1, n1, c1, l1⟩, ⟨a2, n2, c2, l2⟩, mi, md⟩) (he : bs.map An.e = l.map An.e) (hc1 : n1 ≤ cap1) (hc2 : n2 ≤ cap2) :
    ∃ oad ocap, ov = .slice oad n ocap ∧ ∀ y0 y1 y2 y3 y4, Below w.heap.size w (setR wr (w.heap.size + 1) y0 y1 y2 y3 y4) ∧ RuG (setR wr (w.heap.size + 1) y0 y1 y2 y3 y4) ⟨oad, n, ocap, bs, ⟨ad1, n1, cap1, l1⟩, ⟨ad2, n2, cap2, l2⟩, mi, md⟩ ∧ RuT (setR wr (w.heap.size + 1) y0 y1 y2 y3 y4) ⟨oad, n, ocap, bs, ⟨ad1, n1, cap1, l1⟩, ⟨ad2, n2, cap2, l2⟩, mi, md⟩ ∧
      RuC ⟨ad, n, cap, l, ⟨a1, n1, c1, l1⟩, ⟨a2, n2, c2, l2⟩, mi, md⟩ ⟨oad, n, ocap, bs, ⟨ad1, n1, cap1, l1⟩, ⟨ad2, n2, cap2, l2⟩, mi, md⟩ := by
  obtain ⟨oad, ocap, hov, hcap, -, hF⟩ := or_done h.own h.ands he hX.or
  refine ⟨oad, ocap, hov, fun y0 y1 y2 y3 y4 => ?_⟩
  have gs := setR_grown wr (w.heap.size + 1) y0 y1 y2 y3 y4
  have hb : Below w.heap.size w (setR wr (w.heap.size + 1) y0 y1 y2 y3 y4) := h.below.grown gs h.below.size (fun q e => by have := Option.some.inj e; omega)
  have own5 := h.own.kept gs (by
    cases hv : ov.ownBlock with
    | none => exact .inl rfl
    | some q => exact .inr (fun e => by have := (h.own.lt q hv).1; have e2 := Option.some.inj e; omega))
  have ands5 : ∀ b ∈ bs, CpA (setR wr (w.heap.size + 1) y0 y1 y2 y3 y4) b := fun b hb => (h.ands b hb).grown gs (fun k e => by cases e; exact ⟨_, by decide, by decide, h.kt2⟩)
  obtain ⟨oad', ocap', hov', -, hO, -⟩ := or_done own5 ands5 he hX.or
  rw [hov] at hov'
  simp only [Value.slice.injEq] at hov'
  obtain ⟨rfl, -, rfl⟩ := hov'
  have f1 := h.f1.grown gs (fun k e => by cases e; exact ⟨_, by decide, h.kt2⟩)
  have f2 := h.f2.grown gs (fun k e => by cases e; exact ⟨_, by decide, h.kt2⟩)
  rw [hov] at own5
  exact ⟨hb, ⟨hO, f1.spn hX.si, f2.spn hX.sd⟩, ⟨fun hn => own_or own5 hn, ands5, f1, f2⟩, ⟨hF, he, rfl, hcap, ⟨rfl, rfl, hc1⟩, ⟨rfl, rfl, hc2⟩, rfl, rfl⟩⟩

set_option maxHeartbeats 8000000 in
set_option maxRecDepth 100000 in
theorem rcopy_any (x : Ru) (w : World) (hX : RuG w x) : Calls Tryd.prog 9 #[x.v] w fun e w' => ∃ y : Ru, e = .returned y.v ∧ Below w.heap.size w w' ∧ RuG w' y ∧ RuC x y ∧ RuT w' y := by
  obtain ⟨ad, n, cap, l, ⟨a1, n1, c1, l1⟩, ⟨a2, n2, c2, l2⟩, mi, md⟩ := x
  obtain ⟨B, hB⟩ : ∃ B, B = w.heap.size := ⟨_, rfl⟩
  have HX := Lib.hid hX
  clear hX
  unfold Ru.v Sg.v
  simp only
  have K := three_bq w (.slice ad n cap) (.slice a1 n1 c1) (.slice a2 n2 c2) (.bool mi) (.bool md) (.slice none 0 0) (.slice none 0 0) (.slice none 0 0) (.bool false) (.bool false) (.slice none 0 0) (.slice none 0 0) (.slice none 0 0) (.bool mi) (.bool md) 25 _ rfl
  obtain ⟨W3, hW3⟩ : ∃ W3, W3 = ((w.alloc (.cells #[.slice ad n cap, .slice a1 n1 c1, .slice a2 n2 c2, .bool mi, .bool md] 25)).alloc (.cells #[.slice none 0 0, .slice none 0 0, .slice none 0 0, .bool false, .bool false] 25)).alloc (.cells #[.slice none 0 0, .slice none 0 0, .slice none 0 0, .bool mi, .bool md] 25) := ⟨_, rfl⟩
  rw [← hW3] at K
  obtain ⟨kB, kz, kr, ks, ko, kt, ku⟩ := K
  have HB := Lib.hid kB
  have KR := Lib.hid kr
  have KS := Lib.hid ks
  have KO := Lib.hid ko
  have KT := Lib.hid kt
  have KU := Lib.hid ku
  have KZ := Lib.hid kz
  have HW := Lib.hid hW3
  have HX3 := Lib.hid (HX.out.keep kB)
  clear kB kz kr ks ko kt ku hW3
  go_enter Tryd.func9, Tryd.ntmps9
  go_wp2_with (at_builtin; refine wpList_append_pairs samp_info Tryd.underlying23 _ rfl _ _ rfl _ rfl a1 n1 c1 l1 rfl ?s1 ?_)
  case s1 => rw [← HW.out]; exact HX3.out.si
  rw [← HW.out]
  intro ad1 cap1 w1 hc1 hb1 hF1
  have hb1' : Below W3.heap.size W3 w1 := by rw [KZ.out]; exact hb1
  clear hb1
  have KR1 := Lib.hid (KR.out.keep hb1')
  have KS1 := Lib.hid (KS.out.keep hb1')
  have KO1 := Lib.hid (KO.out.keep hb1')
  have KT1 := Lib.hid (KT.out.keep hb1')
  have KU1 := Lib.hid (KU.out.keep hb1')
  have HF1 := Lib.hid hF1
  have HB1 := Lib.hid (HB.out.trans (hb1'.mono HB.out.size))
  clear hb1' hF1
  obtain ⟨⟨r0, r1, r2, r3, r4, -⟩, -⟩ := KR1.out
  obtain ⟨⟨o0, o1, o2, o3, o4, -⟩, ofz⟩ := KO1.out
  have f1 := ofz 1
  clear ofz
  have KO2 := Lib.hid (KO1.out.set1 (u := .slice ad1 n1 cap1))
  have HX1 := Lib.hid ((HX.out.keep HB1.out).sd)
  have hne : ∀ g, TyB w1 g 93 → g ≠ w.heap.size + 1 + 1 := fun g hg => hg.other KT1.out (by decide)
  have HF2 := Lib.hid (HF1.out.set (i := 1) (u := .slice ad1 n1 cap1) hne)
  have hbs : Below w.heap.size w (w1.setCell ⟨w.heap.size + 1 + 1, 1, none⟩ (.slice ad1 n1 cap1)) := HB1.out.setCell (p := ⟨w.heap.size + 1 + 1, 1, none⟩) (by show w.heap.size ≤ w.heap.size + 1 + 1; omega) _
  have KR2 := Lib.hid (KR1.out.far (q := w.heap.size + 1 + 1) (i := 1) (u := .slice ad1 n1 cap1) (by omega))
  have KS2 := Lib.hid (KS1.out.far (q := w.heap.size + 1 + 1) (i := 1) (u := .slice ad1 n1 cap1) (by omega))
  have KT2 := Lib.hid (show TyB (w1.setCell ⟨w.heap.size + 1 + 1, 1, none⟩ (.slice ad1 n1 cap1)) (w.heap.size + 1 + 1) 25 from TyB.setSame KT1.out)
  have KU2 := Lib.hid (KU1.out.set (q := w.heap.size + 1 + 1) (i := 1) (u := .slice ad1 n1 cap1) (by omega))
  have HBS := Lib.hid hbs
  have HX2 := Lib.hid (HX.out.keep hbs)
  clear hbs hne
  obtain ⟨⟨s0, s1, s2, s3, s4, -⟩, -⟩ := KO2.out
  obtain ⟨⟨t0, t1, t2, t3, t4, -⟩, -⟩ := KR2.out
  obtain ⟨w2, hw2⟩ : ∃ w2, w2 = w1.setCell ⟨w.heap.size + 1 + 1, 1, none⟩ (.slice ad1 n1 cap1) := ⟨_, rfl⟩
  have HW2 := Lib.hid hw2
  rw [← hw2] at KO2 HF2 KR2 KS2 KT2 KU2 HBS HX2
  clear hw2
  go_wp2_with (at_builtin; refine wpList_append_pairs samp_info Tryd.underlying23 _ rfl _ _ rfl _ rfl a2 n2 c2 l2 rfl ?s2 ?_)
  case s2 => rw [← HW2.out]; exact HX2.out.sd
  rw [← HW2.out]
  intro ad2 cap2 w3 hc2 hb2 hF3
  have hb2' : Below w2.heap.size w2 w3 := by
    have e : w2.heap.size = w1.heap.size := by rw [HW2.out]; simp
    rw [e]
    exact hb2
  clear hb2
  have KR3 := Lib.hid (KR2.out.keep hb2')
  have KS3 := Lib.hid (KS2.out.keep hb2')
  have KO3 := Lib.hid (KO2.out.keep hb2')
  have KT3 := Lib.hid (KT2.out.keep hb2')
  have KU3 := Lib.hid (KU2.out.keep hb2')
  have HF4 := Lib.hid (HF2.out.keep hb2')
  have HF5 := Lib.hid hF3
  have HB3 := Lib.hid (HBS.out.trans (hb2'.mono HBS.out.size))
  clear hb2' hF3 s0 s1 s2 s3 s4 t0 t1 t2 t3 t4 o0 o1 o2 o3 o4 r0 r1 r2 r3 r4 f1
  obtain ⟨⟨o0, o1, o2, o3, o4, -⟩, ofz⟩ := KO3.out
  have f2 := ofz 2
  clear ofz
  have KO4 := Lib.hid (KO3.out.set2 (u := .slice ad2 n2 cap2))
  have hne : ∀ g, TyB w3 g 93 → g ≠ w.heap.size + 1 + 1 := fun g hg => hg.other KT3.out (by decide)
  have HF6 := Lib.hid (HF4.out.set (i := 2) (u := .slice ad2 n2 cap2) hne)
  have HF7 := Lib.hid (HF5.out.set (i := 2) (u := .slice ad2 n2 cap2) hne)
  have HB4 : Hid (Below w.heap.size w (w3.setCell ⟨w.heap.size + 1 + 1, 2, none⟩ (.slice ad2 n2 cap2))) := Lib.hid (HB3.out.setCell (p := ⟨w.heap.size + 1 + 1, 2, none⟩) (by show w.heap.size ≤ w.heap.size + 1 + 1; omega) _)
  have KR4 := Lib.hid (KR3.out.far (q := w.heap.size + 1 + 1) (i := 2) (u := .slice ad2 n2 cap2) (by omega))
  have KS4 := Lib.hid (KS3.out.far (q := w.heap.size + 1 + 1) (i := 2) (u := .slice ad2 n2 cap2) (by omega))
  have KT4 := Lib.hid (show TyB (w3.setCell ⟨w.heap.size + 1 + 1, 2, none⟩ (.slice ad2 n2 cap2)) (w.heap.size + 1 + 1) 25 from TyB.setSame KT3.out)
  have KU4 := Lib.hid (KU3.out.set (q := w.heap.size + 1 + 1) (i := 2) (u := .slice ad2 n2 cap2) (by omega))
  clear hne
  go_wp2_with fail
  obtain ⟨w4, hw4⟩ : ∃ w4, w4 = w3.setCell ⟨w.heap.size + 1 + 1, 2, none⟩ (.slice ad2 n2 cap2) := ⟨_, rfl⟩
  rw [← hw4] at KO4 HF6 HF7 HB4 KR4 KS4 KT4 KU4
  rw [← hw4]
  clear hw4 KO KO1 KO2 KO3 KR KR1 KR2 KR3 KS KS1 KS2 KS3 KT KT1 KT2 KT3 KU KU1 KU2 KU3 HF1 HF2 HF4 HF5 HB HB1 HBS HB3 HW HW2 HX1 HX2 HX3 o0 o1 o2 o3 o4 f2
  have HO : Hid (CpO w (.slice ad n cap) (.slice a1 n1 c1) (.slice a2 n2 c2) (.slice ad n cap) (.slice ad1 n1 cap1) (.slice ad2 n2 cap2) mi md ad1 ad2 n1 n2 l1 l2 w4 (.slice none 0 0) []) :=
    Lib.hid ⟨HB4.out, KR4.out, KS4.out, KO4.out, KT4.out, KU4.out, World.ownsRow_nil _ _ _ _, (fun b hb => absurd hb (List.not_mem_nil)), HF6.out, HF7.out⟩
  have HXO := Lib.hid (HX.out.keep HB4.out).or
  clear HB4 KR4 KS4 KO4 KT4 KU4 HF6 HF7
  have hmost := HXO.out.most
  simp only at hmost
  go_loopg [4] n (fun g s4 wr => ∃ (k : Nat) (ov : Value) (bs : List An), k + g = n ∧ s4 = .int .i64 k ∧ Aside (CpO w (.slice ad n cap) (.slice a1 n1 c1) (.slice a2 n2 c2) (.slice ad n cap) (.slice ad1 n1 cap1) (.slice ad2 n2 cap2) mi md ad1 ad2 n1 n2 l1 l2 wr ov bs) ∧ Aside (bs.map An.e = (l.take k).map An.e) ∧ Aside (bs.length = k))
  case atStart => exact ⟨0, _, [], by omega, rfl, HO.out, rfl, rfl⟩
  case round =>
    obtain ⟨k, ov, bs, hk, rfl, HC, HE, HL⟩ := hrel
    obtain ⟨⟨r0, r1, r2, r3, r4, -⟩, -⟩ := HC.out.kr
    cases gk with
    | zero =>
      have hkz : ¬ ((k : Int) < (n : Int)) := by omega
      obtain ⟨oad, ocap, rfl, hfin⟩ := HC.out.done HX.out (by
        have := HE.out
        rwa [List.take_of_length_le (by have := HX.out.or.len; simp only at this; omega)] at this) hc1 hc2
      obtain ⟨⟨o0, o1, o2, o3, o4, -⟩, -⟩ := HC.out.ko
      obtain ⟨⟨s0, s1, s2, s3, s4, -⟩, sfz⟩ := HC.out.ks
      have z0 := sfz 0
      have z1 := sfz 1
      have z2 := sfz 2
      have z3 := sfz 3
      have z4 := sfz 4
      have P := setR_at HC.out.ks (.slice oad n ocap) (.slice ad1 n1 cap1) (.slice ad2 n2 cap2) (.bool mi) (.bool md)
      have F := Lib.hid (hfin (.slice oad n ocap) (.slice ad1 n1 cap1) (.slice ad2 n2 cap2) (.bool mi) (.bool md))
      unfold setR at P F
      obtain ⟨⟨P0, P1, P2, P3, P4, -⟩, -⟩ := P
      clear sfz hfin
      go_wp2
      refine bodyPost_ret (v := .agg #[.slice oad n ocap, .slice ad1 n1 cap1, .slice ad2 n2 cap2, .bool mi, .bool md]) (by simp [results, Tryd.results9, go_sem, P0, P1, P2, P3, P4]) rfl ?_
      exact ⟨⟨oad, n, ocap, bs, ⟨ad1, n1, cap1, l1⟩, ⟨ad2, n2, cap2, l2⟩, mi, md⟩, rfl, F.out.1, F.out.2.1, F.out.2.2.2, F.out.2.2.1⟩
    | succ g =>
      have hkz : ((k : Int) < (n : Int)) := by omega
      have HX4 := Lib.hid ((HX.out.keep HC.out.below).or)
      obtain ⟨gb, off, had, hgb, hA⟩ := HX4.out.at_ (by show n ≠ 0; omega)
      have hkl : k < l.length := by have := HX4.out.len; simp only at this; omega
      obtain ⟨d0, dA⟩ := hA k (by show k < n; omega)
      have HY : Hid (l.getD k An.nil = l.getD k An.nil) := Lib.hid rfl
      obtain ⟨y, hy⟩ : ∃ y, y = l.getD k An.nil := ⟨_, rfl⟩
      rw [← hy] at d0 dA
      have HYY := Lib.hid hy
      have DA := Lib.hid dA
      have D0 := Lib.hid d0
      have R0 := Lib.hid r0
      clear hA dA hy HY
      simp only at had
      subst had
      obtain ⟨ya, yn, yc, yl⟩ := y
      unfold An.v at d0 D0
      simp only at *
      have hm2 := DA.out.most
      have HL2 := Lib.hid DA.out.len
      rename World => wo
      go_wp2
      have hgbo : gb < wo.heap.size := hgb
      have hsz := HC.out.below.size
      have hko := HC.out.kr.b.lt
      go_loopg [5, 6] yn (fun g2 s5 s6 wy => ∃ (j : Nat) (rs : List Rl), j + g2 = yn ∧ s6 = .int .i64 j ∧ Aside (CpI wo wy s5 rs) ∧ Aside (rs.map Rl.e = (yl.take j).map Rl.e) ∧ Aside (rs.length = j))
      case atStart => exact ⟨0, [], by omega, rfl, ⟨(Below.refl _ _).alloc (Nat.le_refl _) _, World.ownsRow_lit wo #[] 0 (Nat.le_refl _) (by unfold maxLen; omega) rfl, fun r hr => absurd hr (List.not_mem_nil)⟩, rfl, rfl⟩
      case round =>
        obtain ⟨j, rs, hj, rfl, HI, HJ, HK⟩ := hrel
        have hy := HI.out.below.size
        have R1 := Lib.hid ((HI.out.below.cell (p := ⟨w.heap.size, 0, none⟩) (by show w.heap.size < _; omega)).trans R0.out)
        have D1 := Lib.hid ((HI.out.below.cell (p := ⟨gb, off + k, none⟩) (by show gb < _; omega)).trans D0.out)
        clear r0 r1 r2 r3 r4 d0
        have r0 := R1.out
        have d0 := D1.out
        cases gk with
        | zero =>
          have hjz : ¬ ((j : Int) < (yn : Int)) := by omega
          have HC2 := Lib.hid (HC.out.keep HI.out.below)
          obtain ⟨a, ha, hal, han, hA⟩ := HI.out.an
          have HA := Lib.hid hA
          have hjn : j = yn := by omega
          have HAE : Hid (a.e = An.e ⟨ya, yn, yc, yl⟩) := Lib.hid (by
            unfold An.e
            rw [hal, HJ.out, han, HK.out, List.take_of_length_le (by rw [HL2.out]; omega)]
            simp only
            rw [hjn])
          have hyn : a.n = yn := by rw [han, HK.out, hjn]
          clear hA
          obtain ⟨aad, an, acap, al⟩ := a
          unfold An.v at ha
          simp only at ha hal han hyn
          subst hyn
          subst ha
          obtain ⟨⟨o0, o1, o2, o3, o4, -⟩, ofz⟩ := HC2.out.ko
          have f0 := ofz 0
          clear ofz
          have b7 : Below wr.heap.size wr (wr.alloc (.cells #[.slice aad an acap] 37)) := (Below.refl _ _).alloc (Nat.le_refl _) _
          have at7 := fun i => fresh_atA wr #[.slice aad an acap] i (t := 37)
          obtain ⟨W7, hW7⟩ : ∃ W7, W7 = wr.alloc (.cells #[.slice aad an acap] 37) := ⟨_, rfl⟩
          rw [← hW7] at b7 at7
          have HW7 := Lib.hid hW7
          have B7 := Lib.hid b7
          have AT7 := Lib.hid at7
          have HC7 := Lib.hid (HC2.out.keep b7)
          have HA7 := Lib.hid (HA.out.keep b7)
          clear hW7 b7 at7 han hal
          obtain ⟨i0, hi, hz0, hz1, hz2⟩ := info_parts and_info
          go_wp2_with (at_builtin; refine wpList_append_own _ rfl _ _ 22 rfl (w.heap.size + 1 + 1 + 1) 37 i0 (.slice none 0 0) 1 24 Tryd.underlying22 hi hz0 hz1 hz2 rfl (by decide) ov bs.length (bs.map An.v) rfl ?a0 ⟨wr.heap.size, 0, none⟩ 1 1 [.slice aad an acap] rfl rfl ?a1 ?a2 ?a3 ?a4 ?a5 ?_)
          case a0 =>
            have := HC7.out.own
            rw [HW7.out] at this
            exact this
          case a2 => first | rfl | (intro u hu; obtain rfl := List.mem_singleton.1 hu; rfl)
          case a3 => have := HL.out; unfold maxLen; omega
          case a4 => have := HL.out; omega
          case a5 =>
            have h1 := HC2.out.ko.b.lt
            omega
          rw [← HW7.out]
          intro v' w6 hown hgr _
          obtain ⟨vg, vcap, rfl⟩ : ∃ g c, v' = .slice (some ⟨g, 0, none⟩) (bs.length + 1) c := by
            rcases hown.2 with ⟨-, h0⟩ | ⟨g, c, cur, h1, -⟩
            · omega
            · exact ⟨g, c, h1⟩
          have hx : Bw5 w6 (w.heap.size + 1 + 1) ov (.slice ad1 n1 cap1) (.slice ad2 n2 cap2) (.bool mi) (.bool md) := HC7.out.ko.grown hgr (fun e => by have := (HC7.out.own.lt _ e.symm).1; omega)
          have HN := Lib.hid (HC7.out.step (a := ⟨aad, an, acap, al⟩) HA7.out hown hgr)
          have HEN : Hid ((bs ++ [(⟨aad, an, acap, al⟩ : An)]).map An.e = (l.take (k + 1)).map An.e) := Lib.hid (by
            rw [List.map_append, HE.out, List.take_add_one, List.map_append]
            have : l[k]? = some ⟨ya, an, yc, yl⟩ := by
              rw [List.getElem?_eq_getElem hkl, ← getD_atC An.nil hkl, ← HYY.out]
            rw [this]
            simp only [List.map_cons, List.map_nil, Option.toList]
            rw [HAE.out])
          have HLN : Hid ((bs ++ [(⟨aad, an, acap, al⟩ : An)]).length = k + 1) := Lib.hid (by rw [List.length_append, HL.out]; rfl)
          have f6 := hx.fz 0
          have o6 := hx.b.c0
          clear hown hgr hx o0 o1 o2 o3 o4 f0 r0 d0
          go_wp2
          go_roundg g
          case measure => omega
          case rel => exact ⟨k + 1, _, _, by omega, by go_num, HN.out, HEN.out, HLN.out⟩
        | succ g2 =>
          have hjz : ((j : Int) < (yn : Int)) := by omega
          obtain ⟨gc, of2, had2, hg2, hA2⟩ := (DA.out.keep HI.out.below).at_ (by omega)
          have hjl : j < yl.length := by rw [HL2.out]; omega
          have hR := hA2 j (by omega)
          obtain ⟨x, hx⟩ : ∃ x, x = yl.getD j Rl.nil := ⟨_, rfl⟩
          rw [← hx] at hR
          have HXX := Lib.hid hx
          have HRL := Lib.hid hR.li
          obtain ⟨q0, q1, q2, q3, q4, -, -⟩ := hR
          clear hA2 hx
          subst had2
          obtain ⟨op, mo, no, wi, xa, xn, xc, xl⟩ := x
          simp only at *
          have z1 : (wr.alloc (.cells #[.string op, .string mo, .bool no, .bool wi, .slice xa xn xc] 40)).heap.size = wr.heap.size + 1 := by simp
          have b1 : Below wr.heap.size wr (wr.alloc (.cells #[.string op, .string mo, .bool no, .bool wi, .slice xa xn xc] 40)) := (Below.refl _ _).alloc (Nat.le_refl _) _
          have x1 := bw5_new wr (.string op) (.string mo) (.bool no) (.bool wi) (.slice xa xn xc) 40
          have t1 := TyB.new wr #[.string op, .string mo, .bool no, .bool wi, .slice xa xn xc] 40
          obtain ⟨V1, hV1⟩ : ∃ V1, V1 = wr.alloc (.cells #[.string op, .string mo, .bool no, .bool wi, .slice xa xn xc] 40) := ⟨_, rfl⟩
          have b2 : Below V1.heap.size V1 (V1.alloc (.cells #[] 76)) := (Below.refl _ _).alloc (Nat.le_refl _) _
          have z2 : (V1.alloc (.cells #[] 76)).heap.size = V1.heap.size + 1 := by simp
          rw [← hV1] at z1 b1 x1 t1
          obtain ⟨V2, hV2⟩ : ∃ V2, V2 = V1.alloc (.cells #[] 76) := ⟨_, rfl⟩
          rw [← hV2] at b2 z2
          have HV : Hid (V2 = (wr.alloc (.cells #[.string op, .string mo, .bool no, .bool wi, .slice xa xn xc] 40)).alloc (.cells #[] 76)) := Lib.hid (by rw [hV2, hV1])
          have HB2 := Lib.hid (b1.trans (b2.mono b1.size))
          have X2 := Lib.hid (x1.keep b2)
          have T2 := Lib.hid (t1.keep b2)
          have Z2 := Lib.hid (z2.trans (by rw [z1]))
          have HRL2 := Lib.hid (HRL.out.keep HB2.out)
          have e4 := x1.b.c4
          rw [hV1] at e4
          clear hV1 hV2 b1 b2 x1 t1 z1 z2
          go_wp2_with (at_builtin; refine wpList_append_pairs spn_info Tryd.underlying38 _ rfl _ _ rfl _ rfl xa xn xc xl rfl ?s3 ?_)
          case s3 => rw [← HV.out]; exact HRL2.out
          rw [← HV.out]
          intro ad3 cap3 w5 hc3 hb3 hF3
          have hb3' : Below V2.heap.size V2 w5 := by rw [Z2.out]; exact hb3
          have B5 := HB2.out.trans (hb3'.mono HB2.out.size)
          have X5 := X2.out.keep hb3'
          have T5 := T2.out.keep hb3'
          have f4 := X5.fz 4
          have X6 := X5.set4 (u := .slice ad3 xn cap3)
          have F6 := SpnF.set (q := wr.heap.size) (i := 4) (u := .slice ad3 xn cap3) hF3 (fun g hg => hg.other T5 (by decide))
          have B6 : Below wr.heap.size wr (w5.setCell ⟨wr.heap.size, 4, none⟩ (.slice ad3 xn cap3)) := B5.setCell (p := ⟨wr.heap.size, 4, none⟩) (Nat.le_refl _) _
          obtain ⟨W6, hW6⟩ : ∃ W6, W6 = w5.setCell ⟨wr.heap.size, 4, none⟩ (.slice ad3 xn cap3) := ⟨_, rfl⟩
          rw [← hW6] at X6 F6 B6
          have b7 : Below W6.heap.size W6 (W6.alloc (.cells #[.string op, .string mo, .bool no, .bool wi, .slice ad3 xn cap3] 40)) := (Below.refl _ _).alloc (Nat.le_refl _) _
          have at7 := fun i => fresh_atA W6 #[.string op, .string mo, .bool no, .bool wi, .slice ad3 xn cap3] i (t := 40)
          have z7 : (W6.alloc (.cells #[.string op, .string mo, .bool no, .bool wi, .slice ad3 xn cap3] 40)).heap.size = W6.heap.size + 1 := by simp
          obtain ⟨W7, hW7⟩ : ∃ W7, W7 = W6.alloc (.cells #[.string op, .string mo, .bool no, .bool wi, .slice ad3 xn cap3] 40) := ⟨_, rfl⟩
          rw [← hW7] at b7 at7 z7
          have B7 := Lib.hid (B6.trans (b7.mono B6.size))
          have F7 := Lib.hid (F6.keep b7)
          have AT7 := Lib.hid at7
          have Z7 := Lib.hid z7
          have HW7 : Hid (W7 = (w5.setCell ⟨wr.heap.size, 4, none⟩ (.slice ad3 xn cap3)).alloc (.cells #[.string op, .string mo, .bool no, .bool wi, .slice ad3 xn cap3] 40)) := Lib.hid (by rw [hW7, hW6])
          have OW7 := Lib.hid (own_keep HI.out.own B7.out)
          have S6 : Hid (W6.heap.size = w5.heap.size) := Lib.hid (by rw [hW6]; simp)
          have x6 := X6.b
          rw [hW6] at x6
          obtain ⟨g0, g1, g2', g3, g4, -⟩ := x6
          have h4 := X5.b.c4
          have hrl := HK.out
          clear hb3 hb3' hF3 B5 X5 T5 X6 F6 B6 hW6 b7 at7 z7 hW7 q0 q1 q2 q3 q4
          obtain ⟨i0, hi, hz0, hz1, hz2⟩ := info_parts rel_info
          go_wp2_with (at_builtin; refine wpList_append_own _ rfl _ _ 37 rfl wo.heap.size 40 i0 (.agg #[.string ⟨#[]⟩, .string ⟨#[]⟩, .bool false, .bool false, .slice none 0 0]) 5 64 Tryd.underlying37 hi hz0 hz1 hz2 rfl (by decide) _ rs.length (flatL rs) rfl ?c0 ⟨w5.heap.size, 0, none⟩ 1 1 (Rl.cs ⟨op, mo, no, wi, ad3, xn, cap3, xl⟩) rfl rfl ?c1 ?c2 ?c3 ?c4 ?c5 ?_)
          case c0 =>
            have := OW7.out
            rw [HW7.out] at this
            exact this
          case c1 =>
            intro i u hu
            have hadd : (⟨w5.heap.size, 0, none⟩ : Addr).add i = ⟨w5.heap.size, i, none⟩ := by unfold Addr.add; split <;> simp_all
            have := AT7.out i
            rw [HW7.out, S6.out] at this
            rw [hadd, this]
            simpa [Rl.cs] using hu
          case c2 =>
            intro u hu
            simp only [Rl.cs, List.mem_cons, List.not_mem_nil, or_false] at hu
            rcases hu with rfl | rfl | rfl | rfl | rfl <;> rfl
          case c3 => unfold maxLen; omega
          case c4 => omega
          case c5 =>
            have h1 := B7.out.size
            rw [HW7.out] at h1
            exact Nat.le_trans hy h1
          rw [← HW7.out]
          intro v' w6 hown hgr _
          have BW := Lib.hid ((HI.out.below.trans (B7.out.mono hy)).grown hgr (Nat.le_trans hy B7.out.size) (fun q e => (OW7.out.lt q e).1))
          have HR6 : Hid (∀ r ∈ rs ++ [(⟨op, mo, no, wi, ad3, xn, cap3, xl⟩ : Rl)], CpR w6 r) := Lib.hid (fun r hr => by
            have h7 : CpR W7 r := by
              rcases List.mem_append.1 hr with h | h
              · exact (HI.out.rs r h).keep B7.out
              · obtain rfl := List.mem_singleton.1 h
                exact ⟨hc3, HRL.out.len, F7.out⟩
            exact h7.grown hgr (fun q e => ⟨40, by decide, own_ty OW7.out e⟩))
          have HO6 : Hid (w6.ownsRow wo.heap.size 40 5 v' (rs ++ [(⟨op, mo, no, wi, ad3, xn, cap3, xl⟩ : Rl)]).length (flatL (rs ++ [(⟨op, mo, no, wi, ad3, xn, cap3, xl⟩ : Rl)]))) := Lib.hid (by
            rw [flatL_snoc, List.length_append, hrl]
            exact hown)
          have HE6 : Hid ((rs ++ [(⟨op, mo, no, wi, ad3, xn, cap3, xl⟩ : Rl)]).map Rl.e = (yl.take (j + 1)).map Rl.e) := Lib.hid (by
            rw [List.map_append, HJ.out, List.take_add_one, List.map_append]
            have : yl[j]? = some ⟨op, mo, no, wi, xa, xn, xc, xl⟩ := by
              rw [List.getElem?_eq_getElem hjl, ← getD_atC Rl.nil hjl, ← HXX.out]
            rw [this]
            rfl)
          clear hown hgr
          go_wp2
          go_roundg g2
          case measure => omega
          case rel => exact ⟨j + 1, _, by omega, by go_num, ⟨BW.out, HO6.out, HR6.out⟩, HE6.out, by rw [List.length_append, hrl]; rfl⟩
end Go.Proofs.YtmggdnnffdaffaaDoor
