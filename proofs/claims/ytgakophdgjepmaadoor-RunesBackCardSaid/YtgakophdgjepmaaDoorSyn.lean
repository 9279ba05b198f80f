/- Syntax characters of both sides: the table of spans, read from the package's variable and from the reference's own lists. -/
import Derived.Test.YtgakophdgjepmaaDoorLeaf
import Derived.Lib.Hide
import Derived.Laws.Rows
namespace Go.Proofs.YtgakophdgjepmaaDoor
open Go.RowKit

def lowSpans : List Int := [0x21, 0x2F, 0x3A, 0x40, 0x5B, 0x5E, 0x60, 0x60, 0x7B, 0x7E, 0xA1, 0xA7, 0xA9, 0xA9, 0xAB, 0xAC, 0xAE, 0xAE, 0xB0, 0xB1, 0xB6, 0xB6, 0xBB, 0xBB, 0xBF, 0xBF, 0xD7, 0xD7, 0xF7, 0xF7]
def highSpans : List Int := [0x2010, 0x2027, 0x2030, 0x203E, 0x2041, 0x2053, 0x2055, 0x205E, 0x2190, 0x2BFF, 0x2E00, 0x2E7F, 0x3001, 0x3003, 0x3008, 0x3020, 0x3030, 0x3030, 0xFD3E, 0xFD3F, 0xFE45, 0xFE46]

def inB (r : Int) : List Int → Bool
  | a :: b :: t => (decide (a ≤ r) && decide (r ≤ b)) || inB r t
  | _ => false
def synB (r : Int) : Bool := inB r (lowSpans ++ highSpans)
theorem inB_append (r : Int) : ∀ (n : Nat) (a b : List Int), a.length = 2 * n → inB r (a ++ b) = (inB r a || inB r b)
  | 0, a, b, h => by
    obtain rfl : a = [] := List.eq_nil_of_length_eq_zero (by omega)
    simp [inB]
  | n + 1, x :: y :: t, b, h => by
    simp only [List.cons_append, inB, inB_append r n t b (by simp at h; omega), Bool.or_assoc]
  | n + 1, [x], b, h => by simp at h; omega
theorem synB_eq (r : Int) : synB r = (inB r lowSpans || inB r highSpans) := inB_append r 15 _ _ rfl
theorem inB_drop {r : Int} {zs : List Int} {k : Nat} (h : k + 1 < zs.length) : inB r (zs.drop k) = ((decide (zs.getD k 0 ≤ r) && decide (r ≤ zs.getD (k + 1) 0)) || inB r (zs.drop (k + 2))) := by
  rw [List.drop_eq_getElem_cons (by omega : k < zs.length), List.drop_eq_getElem_cons h]
  simp only [inB, List.getD_eq_getElem?_getD, List.getElem?_eq_getElem h, List.getElem?_eq_getElem (by omega : k < zs.length), Option.getD_some]
theorem inB_end {r : Int} {zs : List Int} {k : Nat} (h : ¬ k + 1 < zs.length) : inB r (zs.drop k) = false := by
  have hl : (zs.drop k).length ≤ 1 := by simp; omega
  match hz : zs.drop k, hl with
  | [], _ => rfl
  | [x], _ => rfl

set_option maxRecDepth 100000 in
theorem in_any (r : Int) (zs : List Int) (b off cap : Nat) (w : World) (hm : zs.length ≤ 1000) (hc : ∀ j, j < zs.length → w.cell? ⟨b, off + j, none⟩ = some (.int .i32 (zs.getD j 0))) :
    Calls Tryd.prog 35 #[.int .i32 r, .slice (some ⟨b, off, none⟩) zs.length cap] w fun e w' => e = .returned (.bool (inB r zs)) ∧ w = w' := by
  have HC := Lib.hid hc
  clear hc
  go_enter Tryd.func35, Tryd.ntmps35
  go_wp2
  go_loop [5] (fun i => ∃ k : Nat, i = .int .i64 k ∧ k ≤ zs.length + 1 ∧ inB r (zs.drop k) = inB r zs) (fun i => zs.length + 1 - (intOf i).toNat)
  case atStart => exact ⟨0, rfl, by omega, rfl⟩
  case round =>
    obtain ⟨k, rfl, hk, hE⟩ := hrel
    have HE := Lib.hid hE
    clear hE
    by_cases hlt : k + 1 < zs.length
    · have c0 := HC.out k (by omega)
      have c1 := HC.out (k + 1) hlt
      have HD := Lib.hid (inB_drop (r := r) hlt)
      generalize zs.getD k 0 = lo at *
      generalize zs.getD (k + 1) 0 = hi at *
      by_cases h1 : lo ≤ r
      · by_cases h2 : r ≤ hi
        · go_wp2
          go_ret
          exact ⟨ret_bool (by rw [← HE.out, HD.out]; simp [h1, h2]), rfl⟩
        · go_wp2
          go_round
          case rel => exact ⟨k + 2, by go_num, by omega, by rw [← HE.out, HD.out]; simp [h2]⟩
          case measure => simp [intOf]; omega
      · go_wp2
        go_round
        case rel => exact ⟨k + 2, by go_num, by omega, by rw [← HE.out, HD.out]; simp [h1]⟩
        case measure => simp [intOf]; omega
    · go_wp2
      go_ret
      exact ⟨ret_bool (by rw [← HE.out, inB_end hlt]), rfl⟩
theorem in_block (r : Int) (zs : List Int) (n b t : Nat) (cs : Array Value) (fr : Nat × Nat) (w : World) (hn : n = zs.length) (hm : zs.length ≤ 1000) (hcs : cs = (zs.map (Value.int .i32)).toArray) (hg : w.heap[b]? = some (.cells cs t fr)) :
    Calls Tryd.prog 35 #[.int .i32 r, .slice (some ⟨b, 0, none⟩) n n] w fun e w' => e = .returned (.bool (inB r zs)) ∧ w = w' := by
  subst hn hcs
  refine in_any r zs b 0 zs.length w hm fun j hj => ?_
  rw [Nat.zero_add, cell_of_row w b j _ _ _ hg]
  simp [hj]

set_option maxHeartbeats 2000000 in
set_option maxRecDepth 100000 in
theorem refSyntax_any (r : Int) (w : World) :
    Calls Tryd.prog 20 #[.int .i32 r] w fun e w' => e = .returned (.bool (synB r)) ∧ Below w.heap.size w w' := by
  have HS := Lib.hid (synB_eq r)
  by_cases h : inB r lowSpans = true
  · go_enter Tryd.func20, Tryd.ntmps20
    go_wp2_with fail
    refine (in_block r lowSpans 30 w.heap.size _ _ _ _ rfl (by decide) rfl (heap_alloc2_old w _ _)).mono ?_
    rintro e w' ⟨rfl, rfl⟩
    go_wp2_with fail
    go_ret
    exact ⟨ret_bool (by rw [HS.out, h]; rfl), ((Below.refl _ w).alloc (Nat.le_refl _) _).alloc (by simp) _⟩
  · have h' : inB r lowSpans = false := by simpa using h
    clear h
    go_enter Tryd.func20, Tryd.ntmps20
    go_wp2_with fail
    refine (in_block r lowSpans 30 w.heap.size _ _ _ _ rfl (by decide) rfl (heap_alloc2_old w _ _)).mono ?_
    rintro e w' ⟨rfl, rfl⟩
    go_wp2_with fail
    refine (in_block r highSpans 22 (w.heap.size + 1) _ _ _ _ rfl (by decide) rfl (heap_alloc2_new w _ _)).mono ?_
    rintro e w' ⟨rfl, rfl⟩
    go_wp2_with fail
    go_ret
    exact ⟨ret_bool (by rw [HS.out, h', Bool.false_or]), ((Below.refl _ w).alloc (Nat.le_refl _) _).alloc (by simp) _⟩

def tabCells : Array Value := ((lowSpans ++ highSpans).map (Value.int .i32)).toArray
theorem spanAt (k : Nat) (hk : k < 26) (w : World) : (Instr.index 48 (.agg tabCells) (.int .i64 k)).run Tryd.prog w = .ok (.agg #[.int .i32 ((lowSpans ++ highSpans).getD (2 * k) 0), .int .i32 ((lowSpans ++ highSpans).getD (2 * k + 1) 0)]) w := by
  have h : k = 0 ∨ k = 1 ∨ k = 2 ∨ k = 3 ∨ k = 4 ∨ k = 5 ∨ k = 6 ∨ k = 7 ∨ k = 8 ∨ k = 9 ∨ k = 10 ∨ k = 11 ∨ k = 12 ∨ k = 13 ∨ k = 14 ∨ k = 15 ∨ k = 16 ∨ k = 17 ∨ k = 18 ∨ k = 19 ∨ k = 20 ∨ k = 21 ∨ k = 22 ∨ k = 23 ∨ k = 24 ∨ k = 25 := by omega
  rcases h with rfl | rfl | rfl | rfl | rfl | rfl | rfl | rfl | rfl | rfl | rfl | rfl | rfl | rfl | rfl | rfl | rfl | rfl | rfl | rfl | rfl | rfl | rfl | rfl | rfl | rfl
  all_goals (show _ = _; kernel_rfl)

/-- The package's table lies in its block. -/
def TabW (w : World) : Prop := ∃ t fr, w.heap[0]? = some (.cells tabCells t fr)
theorem TabW.below {B : Nat} {w w' : World} (h : TabW w) (hb : Below B w w') (hB : w.heap.size ≤ B) : TabW w' := by
  obtain ⟨t, fr, hg⟩ := h
  exact ⟨t, fr, (hb.block _ (Nat.lt_of_lt_of_le (Array.getElem?_eq_some_iff.1 hg).1 hB)).trans hg⟩

set_option maxHeartbeats 1000000 in
set_option maxRecDepth 100000 in
theorem syntax_any (r : Int) (w : World) (h : TabW w) :
    Calls Tryd.prog 19 #[.int .i32 r] w fun e w' => e = .returned (.bool (synB r)) ∧ Below w.heap.size w w' := by
  obtain ⟨t, fr, hg⟩ := h
  go_enter Tryd.func19, Tryd.ntmps19
  go_wp2_with (refine wpList_load_row rfl 48 _ rfl 0 rfl t _ fr _ hg Tryd.underlying48 rfl (by kernel_rfl) ?_)
  go_loopw [4, 6] (fun p i wr => ∃ k : Nat, i = .int .i64 k ∧ k ≤ 26 ∧ Below w.heap.size w wr ∧ inB r ((lowSpans ++ highSpans).drop (2 * k)) = synB r) (fun _ i _ => 26 - (intOf i).toNat)
  case atStart => exact ⟨0, rfl, by omega, Below.refl _ _, rfl⟩
  case round =>
    obtain ⟨k, rfl, hk, hb, hE⟩ := hrel
    have HE := Lib.hid hE
    clear hE
    by_cases hlt : k < 26
    · have hix := spanAt k hlt
      have HD := Lib.hid (inB_drop (r := r) (zs := lowSpans ++ highSpans) (k := 2 * k) (by show _ < 52; omega))
      generalize (lowSpans ++ highSpans).getD (2 * k) 0 = lo at *
      generalize (lowSpans ++ highSpans).getD (2 * k + 1) 0 = hi at *
      by_cases h1 : lo ≤ r
      · by_cases h2 : r ≤ hi
        · go_wp2
          go_ret
          exact ⟨ret_bool (by rw [← HE.out, HD.out]; simp [h1, h2]), hb.alloc hb.size _⟩
        · go_wp2
          go_roundw
          case rel => exact ⟨k + 1, by go_num, by omega, hb.alloc hb.size _, by rw [← HE.out, HD.out, show 2 * (k + 1) = 2 * k + 2 by omega]; simp [h2]⟩
          case measure => simp [intOf]; omega
      · go_wp2
        go_roundw
        case rel => exact ⟨k + 1, by go_num, by omega, hb.alloc hb.size _, by rw [← HE.out, HD.out, show 2 * (k + 1) = 2 * k + 2 by omega]; simp [h1]⟩
        case measure => simp [intOf]; omega
    · go_wp2
      go_ret
      exact ⟨ret_bool (by rw [← HE.out, inB_end (by show ¬ _ < 52; omega)]), hb⟩

end Go.Proofs.YtgakophdgjepmaaDoor
