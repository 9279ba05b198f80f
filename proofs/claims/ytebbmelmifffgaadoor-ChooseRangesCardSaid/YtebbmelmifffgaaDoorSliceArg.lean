/- A slice as an argument, opened element by element. -/
import Derived.Test.YtebbmelmifffgaaDoorHoldKit
import Derived.Test.YtebbmelmifffgaaDoorDLeaf
namespace Go.Proofs.YtebbmelmifffgaaDoor
open Go.ChangeShapes Go.WideShapes Go.ChangeAt Go.RowKit Go.Joins

theorem weightsAll_at {H : Type} {P : Program} {e : TypeId} : ∀ {l : List (DataW H)} {d : DataW H}, d ∈ l → ∀ n ∈ d.weights P e, n ∈ DataW.weightsAll P e l
  | x :: l, d, h, n, hn => by
    rw [DataW.weightsAll]
    rcases List.mem_cons.1 h with rfl | h
    · exact List.mem_append_left _ hn
    · exact List.mem_append_right _ (weightsAll_at h n hn)
section
variable {H : Type} {enc : TypeId × Value → H} {w : World} {spare : Nat → Bool} {held : Bool}
/-- One element of a slice that was read. -/
def ElAt (enc : TypeId × Value → H) (w : World) (spare : Nat → Bool) (held : Bool) (te : TypeId) (sz g o : Nat) : Prop :=
  ∃ (cs : List Value) (y : DataW H × List MemPlace) (m : Nat), cs.length = sz ∧ (∀ i, i < sz → w.cell? ⟨g, o + i, none⟩ = cs[i]?) ∧ DataW.trod enc Tryd.prog w 0 spare held m te cs = some y ∧ (∀ x ∈ y.2, x.block < w.heap.size) ∧ (∀ n ∈ y.1.weights Tryd.prog te, n ≤ reachBytes)
set_option maxRecDepth 100000 in
theorem slice_open {ts te : TypeId} {sz : Nat} (hts : Tryd.prog.underlying ts = some (.slice te)) (hsz : Tryd.prog.cellsOf te = sz) (h1 : 1 ≤ sz) {fuel : Nat} {c : Value} {d : DataW H} {q : List MemPlace}
    (h : DataW.trod enc Tryd.prog w 0 spare held fuel ts [c] = some (d, q)) (hlt : ∀ x ∈ q, x.block < w.heap.size) (hw : ∀ n ∈ d.weights Tryd.prog ts, n ≤ reachBytes) :
    ∃ ad n cap, c = .slice ad n cap ∧ n ≤ cap ∧ n * Tryd.prog.bytesOf te ≤ reachBytes ∧ (n = 0 ∨ ∃ g off, ad = some ⟨g, off, none⟩ ∧ g < w.heap.size ∧ ∀ k, k < n → ElAt enc w spare held te sz g (off + k * sz)) := by
  rcases DataW.trod_slice hts h with ⟨hc, _⟩ | ⟨a, len, cap, elems, rest, m, _, hc, hx, hb, hl, hm, hlen, hel, hsp, hns⟩
  · simp only [List.cons.injEq, and_true] at hc
    exact ⟨none, 0, 0, hc, Nat.le_refl _, by omega, .inl rfl⟩
  · simp only [List.cons.injEq, and_true] at hc
    simp only [Prod.mk.injEq] at hx
    obtain ⟨hd, hq⟩ := hx
    have hbytes : len * Tryd.prog.bytesOf te ≤ reachBytes := by
      have := hw ((elems.length + rest.length) * Tryd.prog.bytesOf te) (by
        rw [hd]
        simp only [DataW.weights, hts, List.length_map]
        exact List.mem_cons_self)
      have h2 : elems.length * Tryd.prog.bytesOf te ≤ (elems.length + rest.length) * Tryd.prog.bytesOf te := Nat.mul_le_mul_right _ (by omega)
      have h3 := Nat.le_trans h2 this
      rwa [hlen] at h3
    refine ⟨some a, len, cap, hc, hl, hbytes, ?_⟩
    by_cases h0 : len = 0
    · exact .inl h0
    right
    have each : ∀ i, i < len → ∃ (cs : List Value) (y : DataW H × List MemPlace), cs.length = sz ∧ (∀ j, j < sz → w.cell? ((a.add (i * sz)).add j) = cs[j]?) ∧ DataW.trod enc Tryd.prog w 0 spare held m te cs = some y ∧ elems[i]? = some y := by
      intro i hi
      have h1 := hel i hi
      rw [hsz] at h1
      have hi2 : i < elems.length := by omega
      rw [List.getElem?_eq_getElem hi2, Option.bind_eq_some_iff] at h1
      obtain ⟨cs, hcs, hy⟩ := h1
      obtain ⟨_, g2, g3⟩ := World.cells?_some hcs
      exact ⟨cs, _, g2, g3, hy, List.getElem?_eq_getElem hi2⟩
    obtain ⟨g, off, spot⟩ := a
    have hspot : spot = none := by
      obtain ⟨cs, y, e0, e1, _, _⟩ := each 0 (by omega)
      have e2 := e1 0 (by omega)
      rw [List.getElem?_eq_getElem (by omega)] at e2
      simpa [Addr.add] using World.cell?_spot e2
    subst hspot
    have hadd : ∀ i j, (⟨g, i, none⟩ : Addr).add j = ⟨g, i + j, none⟩ := fun i j => by unfold Addr.add; split <;> simp_all
    have hg : g < w.heap.size := by
      refine hlt (.cell g off) ?_
      rw [hq]
      refine List.mem_append_left _ (MemPlace.mem_row.2 ⟨0, ?_, by simp⟩)
      rw [hsz]
      exact Nat.mul_pos (by omega) (by omega)
    refine ⟨g, off, rfl, hg, fun k hk => ?_⟩
    obtain ⟨cs, y, e0, e1, e2, e3⟩ := each k hk
    have hmem : y ∈ elems := List.mem_of_getElem? e3
    refine ⟨cs, y, m, e0, fun i hi => ?_, e2, fun x hx => hlt x ?_, fun n hn => hw n ?_⟩
    · have := e1 i hi
      rwa [hadd, hadd] at this
    · rw [hq]
      exact List.mem_append_right _ (List.mem_flatMap.2 ⟨y, List.mem_append_left _ hmem, hx⟩)
    · rw [hd]
      simp only [DataW.weights, hts, List.mem_cons, List.mem_append]
      exact .inr (.inl (weightsAll_at (List.mem_map.2 ⟨y, hmem, rfl⟩) n hn))
end
end Go.Proofs.YtebbmelmifffgaaDoor
