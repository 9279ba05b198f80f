/- fine: may all of several decimals be? great: are two as great? -/
import Derived.Test.YtmaljkjcibdbgaaDRef1
import Derived.Test.YtmaljkjcibdbgaaDCompare
import Derived.Test.YtmaljkjcibdbgaaDAwake
namespace Go.Proofs.Ytmaljkjcibdbgaa
open Go.RowKit

/-- Decimals in a row, three cells each. -/
def flat : List (Bool × ByteArray × ByteArray) → List Value
  | [] => []
  | x :: l => .bool x.1 :: .string x.2.1 :: .string x.2.2 :: flat l
def dz : Bool × ByteArray × ByteArray := (false, ⟨#[]⟩, ⟨#[]⟩)
theorem flat_get : ∀ (l : List (Bool × ByteArray × ByteArray)) (k : Nat), k < l.length → (flat l)[k * 3]? = some (.bool (l.getD k dz).1) ∧ (flat l)[k * 3 + 1]? = some (.string (l.getD k dz).2.1) ∧ (flat l)[k * 3 + 2]? = some (.string (l.getD k dz).2.2)
  | [], k, h => by simp at h
  | x :: l, 0, _ => ⟨rfl, rfl, rfl⟩
  | x :: l, k + 1, h => by
    obtain ⟨h1, h2, h3⟩ := flat_get l k (by simpa using h)
    have e : (k + 1) * 3 = k * 3 + 3 := by omega
    rw [e]
    exact ⟨h1, h2, h3⟩
def okL (x : Bool × ByteArray × ByteArray) : Bool := okB x.1 x.2.1 x.2.2

set_option maxHeartbeats 2000000 in
set_option maxRecDepth 100000 in
theorem fine_any (l : List (Bool × ByteArray × ByteArray)) (g n : Nat) (t : TypeId) (fr : Nat × Nat) (w : World) (hg : w.heap[g]? = some (.cells (flat l).toArray t fr)) (hn : l.length = n) (hl : n ≤ 1000)
    (hs : ∀ k, k < n → (l.getD k dz).2.1.size ≤ 140737488355328 ∧ (l.getD k dz).2.2.size ≤ 140737488355328) :
    Calls Try.prog 29 #[.slice (some ⟨g, 0, none⟩) n n] w fun e w' => e = .returned (.bool (l.all okL)) ∧ Below w.heap.size w w' := by
  have LG : g < w.heap.size := (Array.getElem?_eq_some_iff.1 hg).1
  have cell := fun i => cell_of_row w g i _ _ _ hg
  have CELL := Lib.hid cell
  have HN := Lib.hid hn
  have DC := Lib.hid (fun k wx (h : k < n) => refCheck_any (l.getD k dz).1 (l.getD k dz).2.1 (l.getD k dz).2.2 wx (hs k h).1 (hs k h).2)
  clear cell hg hs hn
  go_enter Try.func29, Try.ntmps29
  go_wp2
  go_loopw [3] (fun i wr => ∃ k : Nat, i = .int .i64 k ∧ k ≤ n ∧ (∀ j, j < k → okL (l.getD j dz) = true) ∧ Below w.heap.size w wr) (fun i _ => n - (intOf i).toNat)
  case atStart => exact ⟨0, rfl, by omega, fun j hj => by omega, Below.refl _ _⟩
  case round =>
    obtain ⟨k, rfl, hk, hD, hbw⟩ := hrel
    have HD := Lib.hid hD
    have HW := Lib.hid hbw
    have hz := hbw.size
    clear hD hbw
    by_cases hlt : k < n
    · obtain ⟨f1, f2, f3⟩ := flat_get l k (by rw [HN.out]; exact hlt)
      have c0 : wr.cell? ⟨g, k * 3, none⟩ = some (.bool (l.getD k dz).1) := by rw [HW.out.cell (p := ⟨g, k * 3, none⟩) LG, CELL.out]; simpa using f1
      have c1 : wr.cell? ⟨g, k * 3 + 1, none⟩ = some (.string (l.getD k dz).2.1) := by rw [HW.out.cell (p := ⟨g, k * 3 + 1, none⟩) LG, CELL.out]; simpa using f2
      have c2 : wr.cell? ⟨g, k * 3 + 2, none⟩ = some (.string (l.getD k dz).2.2) := by rw [HW.out.cell (p := ⟨g, k * 3 + 2, none⟩) LG, CELL.out]; simpa using f3
      have DX := Lib.hid (fun wx => DC.out k wx hlt)
      have OX : Hid (okL (l.getD k dz) = okB (l.getD k dz).1 (l.getD k dz).2.1 (l.getD k dz).2.2) := rfl
      have AL : Hid (okL (l.getD k dz) = false → l.all okL = false) := by
        intro h
        rw [Bool.eq_false_iff]
        intro ha
        have hk2 : k < l.length := by rw [HN.out]; exact hlt
        have := List.all_eq_true.1 ha (l[k]) (List.getElem_mem _)
        rw [List.getD_eq_getElem?_getD, List.getElem?_eq_getElem hk2] at h
        simp only [Option.getD_some] at h
        rw [h] at this
        cases this
      generalize hx : l.getD k dz = x at *
      have HX := Lib.hid hx
      clear hx
      obtain ⟨xn, xi, xf⟩ := x
      simp only at c0 c1 c2
      clear f1 f2 f3
      cases ho : okB xn xi xf with
      | false =>
        have q := ck_bad ho
        have HO := Lib.hid (AL.out (OX.out.trans ho))
        clear ho
        go_wp2_with fail
        (with_reducible refine (DX.out _).mono ?_)
        rintro e w1 ⟨rfl, hb⟩
        go_wp2
        go_ret
        exact ⟨ret_bool HO.out.symm, HW.out.trans (hb.mono HW.out.size)⟩
      | true =>
        have q : ckE xn xi xf = 0 := if_pos ho
        have HO := Lib.hid (OX.out.trans ho)
        clear ho
        go_wp2_with fail
        (with_reducible refine (DX.out _).mono ?_)
        rintro e w1 ⟨rfl, hb⟩
        go_wp2
        go_roundw
        case rel => exact ⟨k + 1, by go_num, by omega, fun j hj => by
          by_cases e : j = k
          · subst e; rw [HX.out]; exact HO.out
          · exact HD.out j (by omega), HW.out.trans (hb.mono HW.out.size)⟩
        case measure => simp [intOf]; omega
    · have HA : Hid (l.all okL = true) := by
        refine List.all_eq_true.2 fun x hx => ?_
        obtain ⟨j, hj, rfl⟩ := List.mem_iff_getElem.1 hx
        have := HD.out j (by rw [HN.out] at hj; omega)
        rw [List.getD_eq_getElem?_getD, List.getElem?_eq_getElem hj] at this
        exact this
      go_wp2
      go_ret
      exact ⟨ret_bool HA.out.symm, HW.out⟩

set_option maxHeartbeats 1000000 in
set_option maxRecDepth 100000 in
theorem great_yes (a b : Dc) (w : World) (ha : a.Ok) (hb : b.Ok) (h : cmpD a b = 0) :
    Calls Try.prog 30 #[.agg #[.bool a.neg, .string (dStr a.i), .string (dStr a.f)], .agg #[.bool b.neg, .string (dStr b.i), .string (dStr b.f)]] w fun e w' => e = .returned (.bool true) ∧ Below w.heap.size w w' := by
  have DC : Hid (∀ wx : World, Calls Try.prog 16 #[.agg #[.bool a.neg, .string (dStr a.i), .string (dStr a.f)], .agg #[.bool b.neg, .string (dStr b.i), .string (dStr b.f)]] wx fun e w' => e = .returned (.tuple #[.int .i64 0, .int .i64 0]) ∧ Below wx.heap.size wx w') := by
    intro wx
    have := compare_ok a b wx ha hb
    rw [h] at this
    exact this
  clear ha hb h
  go_enter Try.func30, Try.ntmps30
  go_wp2_with fail
  (with_reducible refine (DC.out _).mono ?_)
  rintro e w1 ⟨rfl, hb⟩
  go_wp2
  go_ret
  exact ⟨rfl, (below_two w _ _).trans (hb.mono (by simp; omega))⟩
end Go.Proofs.Ytmaljkjcibdbgaa
