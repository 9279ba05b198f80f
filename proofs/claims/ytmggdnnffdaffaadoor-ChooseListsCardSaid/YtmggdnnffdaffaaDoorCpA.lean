/- A rule of its own: what is kept of lists that are copied. -/
import Derived.Test.YtmggdnnffdaffaaDoorMkE
import Derived.Test.YtmggdnnffdaffaaDoorApp
import Derived.Laws.OwnMore
namespace Go.Proofs.YtmggdnnffdaffaaDoor
open Go.RowKit

/-- A block's elements are of a type. -/
def TyB (W : World) (g : Nat) (t : TypeId) : Prop := ∃ cur, W.heap[g]? = some (.cells cur t (0, 0))
theorem TyB.lt {W : World} {g : Nat} {t : TypeId} (h : TyB W g t) : g < W.heap.size := by
  obtain ⟨cur, h⟩ := h
  exact (Array.getElem?_eq_some_iff.1 h).1
theorem TyB.other {W : World} {g k : Nat} {t t' : TypeId} (h : TyB W g t) (h' : TyB W k t') (hne : t ≠ t') : g ≠ k := by
  intro e
  subst e
  obtain ⟨cur, h⟩ := h
  obtain ⟨cur', h'⟩ := h'
  rw [h] at h'
  have := Option.some.inj h'
  simp only [Obj.cells.injEq] at this
  exact hne this.2.1
theorem TyB.grown {W W' : World} {g : Nat} {t : TypeId} {row : Option Nat} (h : TyB W g t) (hg : W.grownBy W' row) (hr : some g ≠ row) : TyB W' g t := by
  have hlt := h.lt
  obtain ⟨cur, h⟩ := h
  exact ⟨cur, (hg.block g hlt hr).trans h⟩
theorem TyB.keep {W W' : World} {g : Nat} {t : TypeId} (h : TyB W g t) (hb : Below W.heap.size W W') : TyB W' g t := by
  have hlt := h.lt
  obtain ⟨cur, h⟩ := h
  exact ⟨cur, (hb.block g hlt).trans h⟩
theorem TyB.new (W : World) (cs : Array Value) (t : TypeId) : TyB (W.alloc (.cells cs t)) W.heap.size t := ⟨cs, heap_alloc_new W _⟩
theorem SpA.grown {W W' : World} {g o : Nat} {l : List (ByteArray × ByteArray)} {row : Option Nat} (h : SpA W g o l) (hlt : g < W.heap.size) (hg : W.grownBy W' row) (hr : some g ≠ row) : SpA W' g o l :=
  fun k hk => ⟨(World.cell?_of_block (a := ⟨g, o + k * 2, none⟩) (hg.block g hlt hr)).trans (h k hk).1, (World.cell?_of_block (a := ⟨g, o + k * 2 + 1, none⟩) (hg.block g hlt hr)).trans (h k hk).2⟩

/-- A relation without where its list lies. -/
def Rl.e (x : Rl) : ByteArray × ByteArray × Bool × Bool × Nat × List (ByteArray × ByteArray) := (x.op, x.mo, x.no, x.wi, x.n, x.l)
/-- A relation whose list was copied. -/
structure CpR (W : World) (r : Rl) : Prop where
  cap : r.n ≤ r.cap
  len : r.l.length = r.n
  at_ : r.n ≠ 0 → ∃ g, r.ad = some ⟨g, 0, none⟩ ∧ TyB W g 76 ∧ SpA W g 0 r.l
theorem CpR.grown {W W' : World} {r : Rl} {row : Option Nat} (h : CpR W r) (hg : W.grownBy W' row) (hr : ∀ k, row = some k → ∃ t, t ≠ 76 ∧ TyB W k t) : CpR W' r :=
  ⟨h.cap, h.len, fun hn => by
    obtain ⟨g, h1, h2, h3⟩ := h.at_ hn
    have hne : some g ≠ row := fun e => by
      obtain ⟨t, ht, hk⟩ := hr g e.symm
      exact h2.other hk (fun e => ht e.symm) rfl
    exact ⟨g, h1, h2.grown hg hne, h3.grown h2.lt hg hne⟩⟩
theorem CpR.keep {W W' : World} {r : Rl} (h : CpR W r) (hb : Below W.heap.size W W') : CpR W' r :=
  ⟨h.cap, h.len, fun hn => by
    obtain ⟨g, h1, h2, h3⟩ := h.at_ hn
    exact ⟨g, h1, h2.keep hb, h3.keep hb h2.lt⟩⟩
/-- The cells of relations. -/
def Rl.cs (r : Rl) : List Value := [.string r.op, .string r.mo, .bool r.no, .bool r.wi, .slice r.ad r.n r.cap]
def flatL (rs : List Rl) : List Value := rs.flatMap Rl.cs
theorem flatL_len (rs : List Rl) : (flatL rs).length = rs.length * 5 := by
  induction rs with
  | nil => rfl
  | cons r rs ih =>
    show (r.cs ++ flatL rs).length = _
    rw [List.length_append, ih, List.length_cons]
    show 5 + _ = _
    omega
theorem flatL_snoc (rs : List Rl) (r : Rl) : flatL (rs ++ [r]) = flatL rs ++ r.cs := by
  unfold flatL
  rw [List.flatMap_append]
  simp
theorem flatL_at (rs : List Rl) (k i : Nat) (hk : k < rs.length) (hi : i < 5) : (flatL rs)[k * 5 + i]? = (rs.getD k Rl.nil).cs[i]? := by
  induction rs generalizing k with
  | nil => cases hk
  | cons r rs ih =>
    show (r.cs ++ flatL rs)[k * 5 + i]? = _
    have h5 : r.cs.length = 5 := rfl
    match k with
    | 0 =>
      rw [List.getElem?_append_left (by omega), Nat.zero_mul, Nat.zero_add]
      rfl
    | k + 1 =>
      rw [List.getElem?_append_right (by omega), h5, show (k + 1) * 5 + i - 5 = k * 5 + i by omega, ih k (by simpa using hk)]
      rfl
/-- A list of relations that was copied. -/
structure CpA (W : World) (a : An) : Prop where
  cap : a.n ≤ a.cap
  len : a.l.length = a.n
  at_ : a.n ≠ 0 → ∃ g, a.ad = some ⟨g, 0, none⟩ ∧ TyB W g 40 ∧ ∀ k, k < a.n → ∀ i, i < 5 → W.cell? ⟨g, k * 5 + i, none⟩ = (a.l.getD k Rl.nil).cs[i]?
  rs : ∀ r ∈ a.l, CpR W r
theorem CpA.grown {W W' : World} {a : An} {row : Option Nat} (h : CpA W a) (hg : W.grownBy W' row) (hr : ∀ k, row = some k → ∃ t, t ≠ 76 ∧ t ≠ 40 ∧ TyB W k t) : CpA W' a :=
  ⟨h.cap, h.len, fun hn => by
    obtain ⟨g, h1, h2, h3⟩ := h.at_ hn
    have hne : some g ≠ row := fun e => by
      obtain ⟨t, _, ht, hk⟩ := hr g e.symm
      exact h2.other hk (fun e => ht e.symm) rfl
    exact ⟨g, h1, h2.grown hg hne, fun k hk i hi => (World.cell?_of_block (a := ⟨g, k * 5 + i, none⟩) (hg.block g h2.lt hne)).trans (h3 k hk i hi)⟩,
   fun r hx => (h.rs r hx).grown hg (fun k e => by obtain ⟨t, t1, _, t3⟩ := hr k e; exact ⟨t, t1, t3⟩)⟩
theorem CpA.keep {W W' : World} {a : An} (h : CpA W a) (hb : Below W.heap.size W W') : CpA W' a :=
  ⟨h.cap, h.len, fun hn => by
    obtain ⟨g, h1, h2, h3⟩ := h.at_ hn
    exact ⟨g, h1, h2.keep hb, fun k hk i hi => (hb.cell (p := ⟨g, k * 5 + i, none⟩) h2.lt).trans (h3 k hk i hi)⟩,
   fun r hx => (h.rs r hx).keep hb⟩

/-- The cells of pairs of texts. -/
def flatP (l : List (ByteArray × ByteArray)) : List Value := (List.range (l.length * 2)).map fun j => if j % 2 = 0 then .string (l.getD (j / 2) dq).1 else .string (l.getD (j / 2) dq).2
theorem flatP_at (l : List (ByteArray × ByteArray)) (j : Nat) (h : j < l.length * 2) : (flatP l)[j]? = some (if j % 2 = 0 then .string (l.getD (j / 2) dq).1 else .string (l.getD (j / 2) dq).2) := by
  unfold flatP
  rw [List.getElem?_map, List.getElem?_range h]
  rfl
theorem spa_flat {W : World} {g off n : Nat} {l : List (ByteArray × ByteArray)} (hl : l.length = n) (h : SpA W g off l) : ∀ j, j < n * 2 → W.cell? ⟨g, off + j, none⟩ = (flatP l)[j]? := by
  intro j hj
  rw [flatP_at l j (by rw [hl]; exact hj)]
  obtain ⟨h0, h1⟩ := h (j / 2) (by omega)
  by_cases e0 : j % 2 = 0
  · rw [if_pos e0]
    rwa [show off + j / 2 * 2 = off + j by omega] at h0
  · rw [if_neg e0]
    rwa [show off + j / 2 * 2 + 1 = off + j by omega] at h1
theorem flat_spa {W : World} {g n : Nat} {l : List (ByteArray × ByteArray)} (hl : l.length = n) (h : ∀ j, j < n * 2 → W.cell? ⟨g, j, none⟩ = (flatP l)[j]?) : SpA W g 0 l := by
  intro k hk
  constructor
  · rw [Nat.zero_add, h _ (by omega), flatP_at l _ (by omega), if_pos (by omega), show k * 2 / 2 = k by omega]
  · rw [Nat.zero_add, h _ (by omega), flatP_at l _ (by omega), if_neg (by omega), show (k * 2 + 1) / 2 = k by omega]
/-- What a copied list of pairs has. -/
def SpnF (W : World) (te : TypeId) (ad : Option Addr) (n : Nat) (l : List (ByteArray × ByteArray)) : Prop := n ≠ 0 → ∃ g, ad = some ⟨g, 0, none⟩ ∧ TyB W g te ∧ SpA W g 0 l
theorem SpnF.keep {W W' : World} {te : TypeId} {ad : Option Addr} {n : Nat} {l : List (ByteArray × ByteArray)} (h : SpnF W te ad n l) (hb : Below W.heap.size W W') : SpnF W' te ad n l := fun hn => by
  obtain ⟨g, h1, h2, h3⟩ := h hn
  exact ⟨g, h1, h2.keep hb, h3.keep hb h2.lt⟩
/-- A list of pairs, however long, appended to an empty one. -/
theorem wpList_append_pairs {te ts : TypeId} (hinfo : (Tryd.prog.info? te).map (fun i => (i.zero, i.size, i.bytes)) = some (some (.agg #[.string ⟨#[]⟩, .string ⟨#[]⟩]), 2, 32)) (hts : Tryd.prog.underlying ts = some (.slice te))
    {ops : Array Oper} {rest : List Oper} {o : Oper} {a : Act} {Q : Exit → Act → World → Prop} (w : World)
    (hg : o.guard = none) (s x : Operand) (hop : o.op = Op.call { callee := Callee.builtin Builtin.append, args := #[s, x], argTypes := #[ts, ts] })
    (ad0 : Option Addr) (hs : a.eval s = .slice ad0 0 0) (ad : Option Addr) (n cap : Nat) (l : List (ByteArray × ByteArray)) (hx : a.eval x = .slice ad n cap) (hS : SpnG w ad n l)
    (hK : ∀ ad' cap' w', n ≤ cap' → Below w.heap.size w w' → SpnF w' te ad' n l → wpList Tryd.prog ops Q rest (a.put o.dst (.slice ad' n cap')) w') :
    wpList Tryd.prog ops Q (o :: rest) a w := by
  by_cases h0 : n = 0
  · subst h0
    exact wpList_append_empty hinfo hts w hg s x hop ad0 hs ad cap hx (hK ad0 0 w (Nat.le_refl _) (Below.refl _ _) (fun h => absurd rfl h))
  · obtain ⟨g, off, rfl, hgl, hA⟩ := hS.at_ h0
    have hm := hS.most
    refine wpList_append_fresh hinfo hts w hg s x hop ad0 hs g off n cap (flatP l) hx (spa_flat hS.len hA) (by unfold flatP; rw [List.length_map, List.length_range, hS.len]) ?_ (by omega) (by decide) (by omega) ?_
    · intro u hu
      unfold flatP at hu
      obtain ⟨j, _, rfl⟩ := List.mem_map.1 hu
      split <;> rfl
    · intro cap' w' hc hb _ hat _ hty
      obtain ⟨cur, hty⟩ := hty
      exact hK _ cap' w' hc hb (fun _ => ⟨w.heap.size, rfl, ⟨cur, hty⟩, flat_spa hS.len hat⟩)
end Go.Proofs.YtmggdnnffdaffaaDoor
