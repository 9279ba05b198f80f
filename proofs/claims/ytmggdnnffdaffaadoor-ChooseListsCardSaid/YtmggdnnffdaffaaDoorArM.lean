/- Merged: SliceArg, RuleArg. -/
import Derived.Test.YtmggdnnffdaffaaDoorHoldKit
import Derived.Test.YtmggdnnffdaffaaDoorDLeaf
import Derived.Test.YtmggdnnffdaffaaDoorMkE
namespace Go.Proofs.YtmggdnnffdaffaaDoor
section
open Go.ChangeShapes Go.WideShapes Go.ChangeAt Go.RowKit Go.Joins

theorem weightsAll_at {H : Type} {P : Program} {e : TypeId} : ∀ {l : List (DataW H)} {d : DataW H}, d ∈ l → ∀ n ∈ d.weights P e, n ∈ DataW.weightsAll P e l
  | x :: l, d, h, n, hn => by
    rw [DataW.weightsAll]
    rcases List.mem_cons.1 h with rfl | h
    · exact List.mem_append_left _ hn
    · exact List.mem_append_right _ (weightsAll_at h n hn)
section
variable {H : Type} {enc : TypeId × Value → H} {w : World} {spare : Nat → Bool} {held : Bool}
/-- One element of a slice that was read. -/
def ElAt (enc : TypeId × Value → H) (w : World) (spare : Nat → Bool) (held : Bool) (te : TypeId) (sz g o : Nat) : Prop :=
  ∃ (cs : List Value) (y : DataW H × List MemPlace) (m : Nat), cs.length = sz ∧ (∀ i, i < sz → w.cell? ⟨g, o + i, none⟩ = cs[i]?) ∧ DataW.trod enc Tryd.prog w 0 spare held m te cs = some y ∧ (∀ x ∈ y.2, x.block < w.heap.size) ∧ (∀ n ∈ y.1.weights Tryd.prog te, n ≤ reachBytes)
set_option maxRecDepth 100000 in
theorem slice_open {ts te : TypeId} {sz : Nat} (hts : Tryd.prog.underlying ts = some (.slice te)) (hsz : Tryd.prog.cellsOf te = sz) (h1 : 1 ≤ sz) {fuel : Nat} {c : Value} {d : DataW H} {q : List MemPlace}
    (h : DataW.trod enc Tryd.prog w 0 spare held fuel ts [c] = some (d, q)) (hlt : ∀ x ∈ q, x.block < w.heap.size) (hw : ∀ n ∈ d.weights Tryd.prog ts, n ≤ reachBytes) :
    ∃ ad n cap, c = .slice ad n cap ∧ n ≤ cap ∧ n * Tryd.prog.bytesOf te ≤ reachBytes ∧ (n = 0 ∨ ∃ g off, ad = some ⟨g, off, none⟩ ∧ g < w.heap.size ∧ ∀ k, k < n → ElAt enc w spare held te sz g (off + k * sz)) := by
  rcases DataW.trod_slice hts h with ⟨hc, _⟩ | ⟨a, len, cap, elems, rest, m, _, hc, hx, hb, hl, hm, hlen, hel, hsp, hns⟩
  · simp only [List.cons.injEq, and_true] at hc
    exact ⟨none, 0, 0, hc, Nat.le_refl _, by omega, .inl rfl⟩
  · simp only [List.cons.injEq, and_true] at hc
    simp only [Prod.mk.injEq] at hx
    obtain ⟨hd, hq⟩ := hx
    have hbytes : len * Tryd.prog.bytesOf te ≤ reachBytes := by
      have := hw ((elems.length + rest.length) * Tryd.prog.bytesOf te) (by
        rw [hd]
        simp only [DataW.weights, hts, List.length_map]
        exact List.mem_cons_self)
      have h2 : elems.length * Tryd.prog.bytesOf te ≤ (elems.length + rest.length) * Tryd.prog.bytesOf te := Nat.mul_le_mul_right _ (by omega)
      have h3 := Nat.le_trans h2 this
      rwa [hlen] at h3
    refine ⟨some a, len, cap, hc, hl, hbytes, ?_⟩
    by_cases h0 : len = 0
    · exact .inl h0
    right
    have each : ∀ i, i < len → ∃ (cs : List Value) (y : DataW H × List MemPlace), cs.length = sz ∧ (∀ j, j < sz → w.cell? ((a.add (i * sz)).add j) = cs[j]?) ∧ DataW.trod enc Tryd.prog w 0 spare held m te cs = some y ∧ elems[i]? = some y := by
      intro i hi
      have h1 := hel i hi
      rw [hsz] at h1
      have hi2 : i < elems.length := by omega
      rw [List.getElem?_eq_getElem hi2, Option.bind_eq_some_iff] at h1
      obtain ⟨cs, hcs, hy⟩ := h1
      obtain ⟨_, g2, g3⟩ := World.cells?_some hcs
      exact ⟨cs, _, g2, g3, hy, List.getElem?_eq_getElem hi2⟩
    obtain ⟨g, off, spot⟩ := a
    have hspot : spot = none := by
      obtain ⟨cs, y, e0, e1, _, _⟩ := each 0 (by omega)
      have e2 := e1 0 (by omega)
      rw [List.getElem?_eq_getElem (by omega)] at e2
      simpa [Addr.add] using World.cell?_spot e2
    subst hspot
    have hadd : ∀ i j, (⟨g, i, none⟩ : Addr).add j = ⟨g, i + j, none⟩ := fun i j => by unfold Addr.add; split <;> simp_all
    have hg : g < w.heap.size := by
      refine hlt (.cell g off) ?_
      rw [hq]
      refine List.mem_append_left _ (MemPlace.mem_row.2 ⟨0, ?_, by simp⟩)
      rw [hsz]
      exact Nat.mul_pos (by omega) (by omega)
    refine ⟨g, off, rfl, hg, fun k hk => ?_⟩
    obtain ⟨cs, y, e0, e1, e2, e3⟩ := each k hk
    have hmem : y ∈ elems := List.mem_of_getElem? e3
    refine ⟨cs, y, m, e0, fun i hi => ?_, e2, fun x hx => hlt x ?_, fun n hn => hw n ?_⟩
    · have := e1 i hi
      rwa [hadd, hadd] at this
    · rw [hq]
      exact List.mem_append_right _ (List.mem_flatMap.2 ⟨y, List.mem_append_left _ hmem, hx⟩)
    · rw [hd]
      simp only [DataW.weights, hts, List.mem_cons, List.mem_append]
      exact .inr (.inl (weightsAll_at (List.mem_map.2 ⟨y, hmem, rfl⟩) n hn))
end
end
section
open Go.ChangeShapes Go.WideShapes Go.ChangeAt Go.RowKit Go.Joins

theorem ra_span : Tryd.prog.cellsOf 76 = 2 := by kernel_rfl
theorem ra_sample : Tryd.prog.cellsOf 93 = 2 := by kernel_rfl
theorem ra_rel : Tryd.prog.cellsOf 40 = 5 := by kernel_rfl
theorem ra_and : Tryd.prog.cellsOf 37 = 1 := by kernel_rfl
theorem ra_or : Tryd.prog.cellsOf 22 = 1 := by kernel_rfl
theorem ra_spans : Tryd.prog.cellsOf 38 = 1 := by kernel_rfl
theorem ra_samples : Tryd.prog.cellsOf 23 = 1 := by kernel_rfl
theorem ra_rule : Tryd.prog.cellsOf 25 = 5 := by kernel_rfl
theorem ra_named : Tryd.prog.cellsOf 50 = 6 := by kernel_rfl
theorem ra_nameds : Tryd.prog.cellsOf 43 = 1 := by kernel_rfl
theorem ra_string : Tryd.prog.cellsOf 9 = 1 := by kernel_rfl
theorem ra_bool : Tryd.prog.cellsOf 4 = 1 := by kernel_rfl
theorem ra_int : Tryd.prog.cellsOf 3 = 1 := by kernel_rfl
theorem rb_span : Tryd.prog.bytesOf 76 = 32 := by kernel_rfl
theorem rb_sample : Tryd.prog.bytesOf 93 = 32 := by kernel_rfl
theorem rb_rel : Tryd.prog.bytesOf 40 = 64 := by kernel_rfl
theorem rb_and : Tryd.prog.bytesOf 37 = 24 := by kernel_rfl
theorem rb_named : Tryd.prog.bytesOf 50 = 88 := by kernel_rfl
section
variable {H : Type} {enc : TypeId × Value → H} {w : World} {spare : Nat → Bool} {held : Bool}
/-- A slice read, as a list of what its elements are. -/
theorem slice_list {α : Type} (nil : α) (A : Nat → Nat → α → Prop) {ts te : TypeId} {sz by_ : Nat} (hts : Tryd.prog.underlying ts = some (.slice te)) (hsz : Tryd.prog.cellsOf te = sz) (hby : Tryd.prog.bytesOf te = by_) (h1 : 1 ≤ sz)
    (rd : ∀ g o, ElAt enc w spare held te sz g o → ∃ x, A g o x) {fuel : Nat} {c : Value} {d : DataW H} {q : List MemPlace}
    (h : DataW.trod enc Tryd.prog w 0 spare held fuel ts [c] = some (d, q)) (hlt : ∀ x ∈ q, x.block < w.heap.size) (hw : ∀ n ∈ d.weights Tryd.prog ts, n ≤ reachBytes) :
    ∃ (ad : Option Addr) (n cap : Nat) (l : List α), c = .slice ad n cap ∧ n ≤ cap ∧ l.length = n ∧ n * by_ ≤ 140737488355328 ∧ (∀ k, n ≤ k → l.getD k nil = nil) ∧ (n ≠ 0 → ∃ g off, ad = some ⟨g, off, none⟩ ∧ g < w.heap.size ∧ ∀ k, k < n → A g (off + k * sz) (l.getD k nil)) := by
  obtain ⟨ad, n, cap, hc, hnc, hb, hE⟩ := slice_open hts hsz h1 h hlt hw
  rw [hby] at hb
  have hr := reachBytes_lt
  rcases hE with h0 | ⟨g, off, rfl, hg, hE⟩
  · exact ⟨ad, n, cap, [], hc, hnc, by rw [h0]; rfl, by omega, fun k _ => by simp, fun h => absurd h0 h⟩
  · have : ∀ k, ∃ x : α, k < n → A g (off + k * sz) x := fun k => by
      by_cases hk : k < n
      · obtain ⟨x, hx⟩ := rd _ _ (hE k hk)
        exact ⟨x, fun _ => hx⟩
      · exact ⟨nil, fun h => absurd h hk⟩
    obtain ⟨f, hf2⟩ := Classical.axiomOfChoice this
    refine ⟨_, n, cap, (List.range n).map f, hc, hnc, by simp, by omega, fun k hk => ?_, fun _ => ⟨g, off, rfl, hg, fun k hk => ?_⟩⟩
    · rw [List.getD_eq_getElem?_getD, List.getElem?_eq_none (by simpa using hk)]
      rfl
    · rw [List.getD_eq_getElem?_getD, List.getElem?_map, List.getElem?_range hk]
      exact hf2 k hk
theorem ra_sz (s : ByteArray) (h : s.data.toList.length ≤ reachBytes) : s.size ≤ 140737488355328 := by
  have hr := reachBytes_lt
  have e : s.data.toList.length = s.size := by simp
  omega
/-- A pair of texts, at a place. -/
def PrAt (W : World) (g o : Nat) (p : ByteArray × ByteArray) : Prop := W.cell? ⟨g, o, none⟩ = some (.string p.1) ∧ W.cell? ⟨g, o + 1, none⟩ = some (.string p.2) ∧ p.1.size ≤ 140737488355328 ∧ p.2.size ≤ 140737488355328
set_option maxRecDepth 100000 in
theorem span_el {g o : Nat} (h : ElAt enc w spare held 76 2 g o) : ∃ p, PrAt w g o p := by
  obtain ⟨cs, y, m, hl, hcs, hy, -, hw⟩ := h
  obtain ⟨xs, m, _, hx, -, hlen, hi⟩ := DataW.trod_struct Tryd.underlying76 hy
  match xs, hlen, cs, hl with
  | [y0, y1], _, [c0, c1], _ =>
    have i0 := hi 0 _ rfl
    have i1 := hi 1 _ rfl
    simp [ra_string] at i0 i1
    obtain ⟨a, ha, rfl, -⟩ := DataW.trod_string Tryd.underlying9 i0
    obtain ⟨b, hb, rfl, -⟩ := DataW.trod_string Tryd.underlying9 i1
    simp only [List.cons.injEq, and_true] at ha hb
    subst ha hb hx
    exact ⟨(a, b), hcs 0 (by decide), hcs 1 (by decide), ra_sz _ (hw _ (by simp [DataW.weights, DataW.weightsEach, Tryd.underlying76])), ra_sz _ (hw _ (by simp [DataW.weights, DataW.weightsEach, Tryd.underlying76]))⟩
set_option maxRecDepth 100000 in
theorem sample_el {g o : Nat} (h : ElAt enc w spare held 93 2 g o) : ∃ p, PrAt w g o p := by
  obtain ⟨cs, y, m, hl, hcs, hy, -, hw⟩ := h
  obtain ⟨xs, m, _, hx, -, hlen, hi⟩ := DataW.trod_struct Tryd.underlying93 hy
  match xs, hlen, cs, hl with
  | [y0, y1], _, [c0, c1], _ =>
    have i0 := hi 0 _ rfl
    have i1 := hi 1 _ rfl
    simp [ra_string] at i0 i1
    obtain ⟨a, ha, rfl, -⟩ := DataW.trod_string Tryd.underlying9 i0
    obtain ⟨b, hb, rfl, -⟩ := DataW.trod_string Tryd.underlying9 i1
    simp only [List.cons.injEq, and_true] at ha hb
    subst ha hb hx
    exact ⟨(a, b), hcs 0 (by decide), hcs 1 (by decide), ra_sz _ (hw _ (by simp [DataW.weights, DataW.weightsEach, Tryd.underlying93])), ra_sz _ (hw _ (by simp [DataW.weights, DataW.weightsEach, Tryd.underlying93]))⟩
theorem pairs_spn {ad : Option Addr} {n : Nat} {l : List (ByteArray × ByteArray)} (h1 : l.length = n) (h2 : n * 32 ≤ 140737488355328) (h3 : ∀ k, n ≤ k → l.getD k dq = dq)
    (h4 : n ≠ 0 → ∃ g off, ad = some ⟨g, off, none⟩ ∧ g < w.heap.size ∧ ∀ k, k < n → PrAt w g (off + k * 2) (l.getD k dq)) : SpnG w ad n l := by
  refine ⟨h1, h2, fun hn => ?_, fun k => ?_⟩
  · obtain ⟨g, off, e1, e2, e3⟩ := h4 hn
    exact ⟨g, off, e1, e2, fun k hk => ⟨(e3 k (by omega)).1, (e3 k (by omega)).2.1⟩⟩
  · by_cases hk : k < n
    · obtain ⟨g, off, e1, e2, e3⟩ := h4 (by omega)
      exact ⟨(e3 k hk).2.2.1, (e3 k hk).2.2.2⟩
    · rw [h3 k (by omega)]
      exact ⟨by decide, by decide⟩
theorem ra_spn {fuel : Nat} {c : Value} {d : DataW H} {q : List MemPlace} (h : DataW.trod enc Tryd.prog w 0 spare held fuel 38 [c] = some (d, q)) (hlt : ∀ x ∈ q, x.block < w.heap.size) (hw : ∀ n ∈ d.weights Tryd.prog 38, n ≤ reachBytes) :
    ∃ ad n cap l, c = .slice ad n cap ∧ SpnG w ad n l := by
  obtain ⟨ad, n, cap, l, rfl, -, h1, h2, h3, h4⟩ := slice_list dq (PrAt w) Tryd.underlying38 ra_span rb_span (by decide) (fun _ _ h => span_el h) h hlt hw
  exact ⟨ad, n, cap, l, rfl, pairs_spn h1 h2 h3 h4⟩
theorem ra_smp {fuel : Nat} {c : Value} {d : DataW H} {q : List MemPlace} (h : DataW.trod enc Tryd.prog w 0 spare held fuel 23 [c] = some (d, q)) (hlt : ∀ x ∈ q, x.block < w.heap.size) (hw : ∀ n ∈ d.weights Tryd.prog 23, n ≤ reachBytes) :
    ∃ y : Sg, c = y.v ∧ SpnG w y.ad y.n y.l := by
  obtain ⟨ad, n, cap, l, rfl, -, h1, h2, h3, h4⟩ := slice_list dq (PrAt w) Tryd.underlying23 ra_sample rb_sample (by decide) (fun _ _ h => sample_el h) h hlt hw
  exact ⟨⟨ad, n, cap, l⟩, rfl, pairs_spn h1 h2 h3 h4⟩
set_option maxRecDepth 100000 in
theorem rel_el {g o : Nat} (h : ElAt enc w spare held 40 5 g o) : ∃ x, RelAt w g o x := by
  obtain ⟨cs, y, m, hl, hcs, hy, hlt, hw⟩ := h
  obtain ⟨xs, m, _, hx, -, hlen, hi⟩ := DataW.trod_struct Tryd.underlying40 hy
  match xs, hlen, cs, hl with
  | [y0, y1, y2, y3, y4], _, [c0, c1, c2, c3, c4], _ =>
    have i0 := hi 0 _ rfl
    have i1 := hi 1 _ rfl
    have i2 := hi 2 _ rfl
    have i3 := hi 3 _ rfl
    have i4 := hi 4 _ rfl
    simp [ra_string, ra_bool, ra_spans] at i0 i1 i2 i3 i4
    obtain ⟨a, ha, rfl, -⟩ := DataW.trod_string Tryd.underlying9 i0
    obtain ⟨b, hb, rfl, -⟩ := DataW.trod_string Tryd.underlying9 i1
    obtain ⟨c, hc, rfl⟩ := DataW.trod_bool Tryd.underlying4 i2
    obtain ⟨e, he, rfl⟩ := DataW.trod_bool Tryd.underlying4 i3
    simp only [List.cons.injEq, and_true] at ha hb hc he
    obtain ⟨y4d, y4p⟩ := y4
    subst ha hb hc he hx
    obtain ⟨ad, n, cap, l, rfl, hS⟩ := ra_spn i4 (fun x hx => hlt x (by simp [hx])) (fun k hk => hw k (by
      simp only [DataW.weights, Tryd.underlying40]
      simp [DataW.weights, DataW.weightsEach, hk]))
    exact ⟨⟨a, b, c, e, ad, n, cap, l⟩, hcs 0 (by decide), hcs 1 (by decide), hcs 2 (by decide), hcs 3 (by decide), hcs 4 (by decide), hS, ra_sz _ (hw _ (by simp [DataW.weights, DataW.weightsEach, Tryd.underlying40]))⟩
theorem ra_anl {fuel : Nat} {c : Value} {d : DataW H} {q : List MemPlace} (h : DataW.trod enc Tryd.prog w 0 spare held fuel 37 [c] = some (d, q)) (hlt : ∀ x ∈ q, x.block < w.heap.size) (hw : ∀ n ∈ d.weights Tryd.prog 37, n ≤ reachBytes) :
    ∃ x : An, c = x.v ∧ AndG w x.ad x.n x.l := by
  obtain ⟨ad, n, cap, l, rfl, -, h1, h2, h3, h4⟩ := slice_list Rl.nil (RelAt w) Tryd.underlying37 ra_rel rb_rel (by decide) (fun _ _ h => rel_el h) h hlt hw
  exact ⟨⟨ad, n, cap, l⟩, rfl, h1, h2, h4⟩
theorem and_el {g o : Nat} (h : ElAt enc w spare held 37 1 g o) : ∃ x : An, w.cell? ⟨g, o, none⟩ = some x.v ∧ AndG w x.ad x.n x.l := by
  obtain ⟨cs, ⟨yd, yp⟩, m, hl, hcs, hy, hlt, hw⟩ := h
  match cs, hl with
  | [c0], _ =>
    obtain ⟨x, rfl, hx⟩ := ra_anl hy hlt hw
    exact ⟨x, hcs 0 (by decide), hx⟩
theorem ra_orl {fuel : Nat} {c : Value} {d : DataW H} {q : List MemPlace} (h : DataW.trod enc Tryd.prog w 0 spare held fuel 22 [c] = some (d, q)) (hlt : ∀ x ∈ q, x.block < w.heap.size) (hw : ∀ n ∈ d.weights Tryd.prog 22, n ≤ reachBytes) :
    ∃ ad n cap l, c = .slice ad n cap ∧ n ≤ cap ∧ OrG w ad n l := by
  obtain ⟨ad, n, cap, l, rfl, hnc, h1, h2, h3, h4⟩ := slice_list An.nil (fun g o (x : An) => w.cell? ⟨g, o, none⟩ = some x.v ∧ AndG w x.ad x.n x.l) Tryd.underlying22 ra_and rb_and (by decide) (fun _ _ h => and_el h) h hlt hw
  refine ⟨ad, n, cap, l, rfl, hnc, h1, h2, fun hn => ?_⟩
  obtain ⟨g, off, e1, e2, e3⟩ := h4 hn
  exact ⟨g, off, e1, e2, fun k hk => by simpa using e3 k hk⟩
set_option maxRecDepth 100000 in
theorem ra_ru {fuel : Nat} {cs : List Value} {d : DataW H} {q : List MemPlace} (hl : cs.length = 5) (hy : DataW.trod enc Tryd.prog w 0 spare held fuel 25 cs = some (d, q)) (hlt : ∀ x ∈ q, x.block < w.heap.size) (hw : ∀ n ∈ d.weights Tryd.prog 25, n ≤ reachBytes) :
    ∃ x : Ru, cs = [.slice x.ad x.n x.cap, x.si.v, x.sd.v, .bool x.mi, .bool x.md] ∧ x.n ≤ x.cap ∧ RuG w x := by
  obtain ⟨xs, m, _, hx, -, hlen, hi⟩ := DataW.trod_struct Tryd.underlying25 hy
  match xs, hlen, cs, hl with
  | [y0, y1, y2, y3, y4], _, [c0, c1, c2, c3, c4], _ =>
    have i0 := hi 0 _ rfl
    have i1 := hi 1 _ rfl
    have i2 := hi 2 _ rfl
    have i3 := hi 3 _ rfl
    have i4 := hi 4 _ rfl
    simp [ra_or, ra_samples, ra_bool] at i0 i1 i2 i3 i4
    obtain ⟨c, hc, rfl⟩ := DataW.trod_bool Tryd.underlying4 i3
    obtain ⟨e, he, rfl⟩ := DataW.trod_bool Tryd.underlying4 i4
    simp only [List.cons.injEq, and_true] at hc he
    obtain ⟨y0d, y0p⟩ := y0
    obtain ⟨y1d, y1p⟩ := y1
    obtain ⟨y2d, y2p⟩ := y2
    simp only [Prod.mk.injEq] at hx
    obtain ⟨rfl, rfl⟩ := hx
    subst hc he
    obtain ⟨ad, n, cap, l, rfl, hnc, h0⟩ := ra_orl i0 (fun x hx => hlt x (by simp [hx])) (fun k hk => hw k (by
      simp only [DataW.weights, Tryd.underlying25]
      simp [DataW.weights, DataW.weightsEach, hk]))
    obtain ⟨s1, rfl, h1⟩ := ra_smp i1 (fun x hx => hlt x (by simp [hx])) (fun k hk => hw k (by
      simp only [DataW.weights, Tryd.underlying25]
      simp [DataW.weights, DataW.weightsEach, hk]))
    obtain ⟨s2, rfl, h2⟩ := ra_smp i2 (fun x hx => hlt x (by simp [hx])) (fun k hk => hw k (by
      simp only [DataW.weights, Tryd.underlying25]
      simp [DataW.weights, DataW.weightsEach, hk]))
    exact ⟨⟨ad, n, cap, l, s1, s2, c, e⟩, rfl, hnc, h0, h1, h2⟩
theorem ra_array5 {α : Type} {cs : Array α} (h : cs.size = 5) : ∃ c0 c1 c2 c3 c4, cs = #[c0, c1, c2, c3, c4] := by
  obtain ⟨l⟩ := cs
  match l, h with
  | [c0, c1, c2, c3, c4], _ => exact ⟨c0, c1, c2, c3, c4, rfl⟩
set_option maxRecDepth 100000 in
/-- A rule as an argument. -/
theorem rule_read {b0 : Nat} {v : Value} {d : DataW H} {q : List MemPlace} (hv : Value.okWide Tryd.prog w .any b0 25 v) (h : DataW.Trod enc Tryd.prog w 0 spare held 25 v d q) (hlt : ∀ x ∈ q, x.block < w.heap.size)
    (hw : ∀ n ∈ d.weights Tryd.prog 25, n ≤ reachBytes) : ∃ x : Ru, v = x.v ∧ RuG w x := by
  obtain ⟨cs, rfl, hsz⟩ := okWide_struct Tryd.underlying25 hv
  obtain ⟨c0, c1, c2, c3, c4, rfl⟩ := ra_array5 (hsz.trans ra_rule)
  obtain ⟨fuel, hf⟩ := h
  obtain ⟨x, hx, -, hG⟩ := ra_ru (cs := [c0, c1, c2, c3, c4]) rfl hf hlt hw
  simp only [List.cons.injEq, and_true] at hx
  obtain ⟨rfl, rfl, rfl, rfl, rfl⟩ := hx
  exact ⟨x, rfl, hG⟩
set_option maxRecDepth 100000 in
/-- A rule as an argument, and its room. -/
theorem rule_read2 {b0 : Nat} {v : Value} {d : DataW H} {q : List MemPlace} (hv : Value.okWide Tryd.prog w .any b0 25 v) (h : DataW.Trod enc Tryd.prog w 0 spare held 25 v d q) (hlt : ∀ x ∈ q, x.block < w.heap.size)
    (hw : ∀ n ∈ d.weights Tryd.prog 25, n ≤ reachBytes) : ∃ x : Ru, v = x.v ∧ x.n ≤ x.cap ∧ RuG w x := by
  obtain ⟨cs, rfl, hsz⟩ := okWide_struct Tryd.underlying25 hv
  obtain ⟨c0, c1, c2, c3, c4, rfl⟩ := ra_array5 (hsz.trans ra_rule)
  obtain ⟨fuel, hf⟩ := h
  obtain ⟨x, hx, hc, hG⟩ := ra_ru (cs := [c0, c1, c2, c3, c4]) rfl hf hlt hw
  simp only [List.cons.injEq, and_true] at hx
  obtain ⟨rfl, rfl, rfl, rfl, rfl⟩ := hx
  exact ⟨x, rfl, hc, hG⟩
set_option maxRecDepth 100000 in
theorem named_el {g o : Nat} (h : ElAt enc w spare held 50 6 g o) : ∃ x, NmAt w g o x := by
  obtain ⟨cs, y, m, hl, hcs, hy, hlt, hw⟩ := h
  obtain ⟨xs, m, _, hx, -, hlen, hi⟩ := DataW.trod_struct Tryd.underlying50 hy
  match xs, hlen, cs, hl with
  | [y0, y1], _, [c0, c1, c2, c3, c4, c5], _ =>
    have i0 := hi 0 _ rfl
    have i1 := hi 1 _ rfl
    simp [ra_int, ra_rule] at i0 i1
    obtain ⟨a, ha, rfl, -⟩ := DataW.trod_int Tryd.underlying3 i0
    simp only [List.cons.injEq, and_true] at ha
    obtain ⟨y1d, y1p⟩ := y1
    subst ha hx
    obtain ⟨r, hr, -, hG⟩ := ra_ru rfl i1 (fun x hx => hlt x (by simp [hx])) (fun k hk => hw k (by
      simp only [DataW.weights, Tryd.underlying50]
      simp [DataW.weights, DataW.weightsEach, hk]))
    simp only [List.cons.injEq, and_true] at hr
    obtain ⟨rfl, rfl, rfl, rfl, rfl⟩ := hr
    exact ⟨⟨a, r⟩, hcs 0 (by decide), hcs 1 (by decide), hcs 2 (by decide), hcs 3 (by decide), hcs 4 (by decide), hcs 5 (by decide), hG⟩
set_option maxRecDepth 100000 in
/-- A set of rules as an argument. -/
theorem set_read {b0 : Nat} {v : Value} {d : DataW H} {q : List MemPlace} (hv : Value.okWide Tryd.prog w .any b0 45 v) (h : DataW.Trod enc Tryd.prog w 0 spare held 45 v d q) (hlt : ∀ x ∈ q, x.block < w.heap.size)
    (hw : ∀ n ∈ d.weights Tryd.prog 45, n ≤ reachBytes) : ∃ ad n cap l, v = .agg #[.slice ad n cap] ∧ n ≤ cap ∧ SetG w ad n l := by
  obtain ⟨cs, rfl, hsz⟩ := okWide_struct Tryd.underlying45 hv
  have hsz := hsz.trans (show Tryd.prog.cellsOf 45 = 1 by kernel_rfl)
  obtain ⟨cs⟩ := cs
  obtain ⟨fuel, hf⟩ := h
  obtain ⟨xs, m, _, hx, -, hlen, hi⟩ := DataW.trod_struct Tryd.underlying45 hf
  match xs, hlen, cs, hsz with
  | [y0], _, [c0], _ =>
    have i0 := hi 0 _ rfl
    simp [ra_nameds, Value.cells] at i0
    obtain ⟨y0d, y0p⟩ := y0
    simp at hx
    obtain ⟨rfl, rfl⟩ := hx
    obtain ⟨ad, n, cap, l, rfl, hnc, h1, h2, h3, h4⟩ := slice_list Nm.nil (NmAt w) Tryd.underlying43 ra_named rb_named (by decide) (fun _ _ h => named_el h) i0 hlt (fun k hk => hw k (by
      simp only [DataW.weights, Tryd.underlying45]
      simp [DataW.weightsEach, hk]))
    exact ⟨ad, n, cap, l, rfl, hnc, h1, h2, h4⟩
end
end
end Go.Proofs.YtmggdnnffdaffaaDoor
