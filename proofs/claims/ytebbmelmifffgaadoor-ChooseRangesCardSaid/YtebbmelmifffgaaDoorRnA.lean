/- Rows of ranges in memory; the program's Range. -/
import Derived.Test.YtebbmelmifffgaaDoorCnA
namespace Go.Proofs.YtebbmelmifffgaaDoor
open Go.RowKit

structure Rw3 where
  f : Int
  t : Int
  c : Int
def Rw3.nil : Rw3 := ⟨0, 0, 0⟩
/-- Rows in memory. -/
structure RowsG (W : World) (ad : Option Addr) (n : Nat) (l : List Rw3) : Prop where
  len : l.length = n
  most : n * 24 ≤ 140737488355328
  at_ : n ≠ 0 → ∃ g off, ad = some ⟨g, off, none⟩ ∧ g < W.heap.size ∧ ∀ k, k < n → W.cell? ⟨g, off + k * 3, none⟩ = some (.int .i64 (l.getD k Rw3.nil).f) ∧ W.cell? ⟨g, off + k * 3 + 1, none⟩ = some (.int .i64 (l.getD k Rw3.nil).t) ∧ W.cell? ⟨g, off + k * 3 + 2, none⟩ = some (.int .i64 (l.getD k Rw3.nil).c)
theorem RowsG.keep {W w' : World} {ad : Option Addr} {n : Nat} {l : List Rw3} (h : RowsG W ad n l) (hb : Below W.heap.size W w') : RowsG w' ad n l :=
  ⟨h.len, h.most, fun hn => by
    obtain ⟨g, off, h1, h2, h3⟩ := h.at_ hn
    exact ⟨g, off, h1, Nat.lt_of_lt_of_le h2 hb.size, fun k hk => ⟨(hb.cell (p := ⟨g, off + k * 3, none⟩) h2).trans (h3 k hk).1, (hb.cell (p := ⟨g, off + k * 3 + 1, none⟩) h2).trans (h3 k hk).2.1, (hb.cell (p := ⟨g, off + k * 3 + 2, none⟩) h2).trans (h3 k hk).2.2⟩⟩⟩
def Rw3.ok (x : Rw3) : Bool := catB x.f && catB x.t && catB x.c
def Rw3.is (a b : Int) (x : Rw3) : Bool := (x.f == a) && (x.t == b)
/-- What Range tells. -/
def rgV (n : Nat) (l : List Rw3) (a b : Int) : Int × Int :=
  if 256 < n then (0, 5) else if l.all Rw3.ok = false then (0, 61) else if catB a = false then (0, 61) else if catB b = false then (0, 61) else
  if l.findIdx (Rw3.is a b) = l.length then (b, 0) else ((l.getD (l.findIdx (Rw3.is a b)) Rw3.nil).c, 0)

theorem rgV_big {n : Nat} {l : List Rw3} {a b : Int} (h : 256 < n) : rgV n l a b = (0, 5) := by unfold rgV; rw [if_pos h]
theorem rgV_bad {n : Nat} {l : List Rw3} {a b : Int} (h : ¬ 256 < n) (h1 : l.all Rw3.ok = false) : rgV n l a b = (0, 61) := by unfold rgV; rw [if_neg h, if_pos h1]
theorem rgV_a {n : Nat} {l : List Rw3} {a b : Int} (h : ¬ 256 < n) (h1 : l.all Rw3.ok = true) (h2 : catB a = false) : rgV n l a b = (0, 61) := by unfold rgV; rw [if_neg h, if_neg (by rw [h1]; decide), if_pos h2]
theorem rgV_b {n : Nat} {l : List Rw3} {a b : Int} (h : ¬ 256 < n) (h1 : l.all Rw3.ok = true) (h2 : catB a = true) (h3 : catB b = false) : rgV n l a b = (0, 61) := by
  unfold rgV; rw [if_neg h, if_neg (by rw [h1]; decide), if_neg (by rw [h2]; decide), if_pos h3]
theorem rgV_no {n : Nat} {l : List Rw3} {a b : Int} (h : ¬ 256 < n) (h1 : l.all Rw3.ok = true) (h2 : catB a = true) (h3 : catB b = true) (h4 : l.findIdx (Rw3.is a b) = l.length) : rgV n l a b = (b, 0) := by
  unfold rgV; rw [if_neg h, if_neg (by rw [h1]; decide), if_neg (by rw [h2]; decide), if_neg (by rw [h3]; decide), if_pos h4]
theorem rgV_hit {n : Nat} {l : List Rw3} {a b : Int} {j : Nat} (h : ¬ 256 < n) (h1 : l.all Rw3.ok = true) (h2 : catB a = true) (h3 : catB b = true) (h4 : l.findIdx (Rw3.is a b) = j) (h5 : j < l.length) : rgV n l a b = ((l.getD j Rw3.nil).c, 0) := by
  unfold rgV; rw [if_neg h, if_neg (by rw [h1]; decide), if_neg (by rw [h2]; decide), if_neg (by rw [h3]; decide), h4, if_neg (by omega)]
theorem ret_rg {x y : Int × Int} (h : x = y) : Ending.returned (.tuple #[.int .i64 y.1, .int .i64 y.2]) = .returned (.tuple #[.int .i64 x.1, .int .i64 x.2]) := by rw [h]

theorem allR_take {α : Type} {p : α → Bool} {l : List α} {k : Nat} (d : α) (h : k < l.length) : (l.take (k + 1)).all p = ((l.take k).all p && p (l.getD k d)) := by
  rw [List.take_add_one, List.all_append, List.getD_eq_getElem?_getD, List.getElem?_eq_getElem h]
  simp
theorem allR_false {α : Type} {p : α → Bool} {l : List α} {k : Nat} (_ : k < l.length) (h1 : (l.take (k + 1)).all p = false) : l.all p = false := by
  rw [← List.take_append_drop (k + 1) l, List.all_append, h1, Bool.false_and]

set_option maxHeartbeats 8000000 in
set_option maxRecDepth 100000 in
theorem range_any (ad : Option Addr) (n cap : Nat) (l : List Rw3) (a b : Int) (w : World) (hR : RowsG w ad n l) :
    Calls Tryd.prog 24 #[.slice ad n cap, .int .i64 a, .int .i64 b] w fun e w' => e = .returned (.tuple #[.int .i64 (rgV n l a b).1, .int .i64 (rgV n l a b).2]) ∧ Below w.heap.size w w' := by
  have HR := Lib.hid hR
  have hmost := hR.most
  have HL := Lib.hid hR.len
  clear hR
  by_cases h256 : 256 < n
  · have HV := Lib.hid (rgV_big (l := l) (a := a) (b := b) h256)
    have q : decide ((256 : Int) < (n : Int)) = true := decide_eq_true (by omega)
    go_enter Tryd.func24, Tryd.ntmps24
    go_wp2
    go_ret2
    exact ⟨ret_rg HV.out, Below.refl _ _⟩
  · have H256 := Lib.hid h256
    have q : decide ((256 : Int) < (n : Int)) = false := decide_eq_false (by omega)
    clear h256
    have DC := Lib.hid (fun (c : Int) wx => isCat_any c wx)
    obtain ⟨y, hy⟩ : ∃ y, y = rgV n l a b := ⟨_, rfl⟩
    rw [← hy]
    have HYY := Lib.hid hy
    clear hy
    go_enter Tryd.func24, Tryd.ntmps24
    go_wp2
    go_loopw [17] (fun i wr => ∃ k : Nat, i = .int .i64 k ∧ k ≤ n ∧ Hid ((l.take k).all Rw3.ok = true) ∧ Hid (Below w.heap.size w wr)) (fun i _ => n - (intOf i).toNat)
    case atStart => exact ⟨0, rfl, by omega, Lib.hid rfl, Lib.hid (Below.refl _ _)⟩
    case round =>
      obtain ⟨k, rfl, hk, HE, HW⟩ := hrel
      have hz := HW.out.size
      by_cases hlt : k < n
      · have hlt2 : ((k : Int) < (n : Int)) := by omega
        obtain ⟨g, off, had, hg, hA⟩ := (HR.out.keep HW.out).at_ (by omega)
        obtain ⟨c0, c1, c2⟩ := hA k hlt
        have hl : k < l.length := by rw [HL.out]; exact hlt
        have ea := allR_take (p := Rw3.ok) Rw3.nil hl
        rw [HE.out, Bool.true_and] at ea
        generalize l.getD k Rw3.nil = x at *
        have EA := Lib.hid ea
        clear hA ea
        subst had
        obtain ⟨xf, xt, xc⟩ := x
        simp only at c0 c1 c2
        have hb1 : Below wr.heap.size wr (wr.alloc (.cells #[.int .i64 xf, .int .i64 xt, .int .i64 xc] 88)) := (Below.refl _ _).alloc (Nat.le_refl _) _
        have C1 := Lib.hid (one_box wr (.int .i64 xf) (.int .i64 xt) (.int .i64 xc) 88).2.1
        have zz1 : wr.heap.size < (wr.alloc (.cells #[.int .i64 xf, .int .i64 xt, .int .i64 xc] 88)).heap.size := by simp
        have H1 := Lib.hid (HW.out.trans (hb1.mono hz))
        clear hb1
        obtain ⟨x0, x1, x2⟩ := C1.out
        cases qf : catB xf with
        | false =>
          have EF : Hid (l.all Rw3.ok = false) := Lib.hid (allR_false hl (by rw [EA.out]; unfold Rw3.ok; rw [qf]; rfl))
          have DF : Hid (∀ wx, Calls Tryd.prog 40 #[.int .i64 xf] wx fun e w' => e = .returned (.bool false) ∧ Below wx.heap.size wx w') := Lib.hid (fun wx => by have := DC.out xf wx; rwa [qf] at this)
          clear EA HE
          go_wp2_with fail
          (with_reducible refine (DF.out _).mono ?_)
          rintro e v2 ⟨rfl, hb2⟩
          have H2 := Lib.hid (H1.out.trans (hb2.mono H1.out.size))
          have C2 := Lib.hid (C1.out.keep hb2 zz1)
          have zz2 : wr.heap.size < v2.heap.size := Nat.lt_of_lt_of_le zz1 hb2.size
          clear hb2 x0 x1 x2
          obtain ⟨x0, x1, x2⟩ := C2.out
          go_wp2
          go_ret2
          exact ⟨ret_rg (HYY.out.trans (rgV_bad H256.out EF.out)), H2.out⟩
        | true =>
          have DF : Hid (∀ wx, Calls Tryd.prog 40 #[.int .i64 xf] wx fun e w' => e = .returned (.bool true) ∧ Below wx.heap.size wx w') := Lib.hid (fun wx => by have := DC.out xf wx; rwa [qf] at this)
          cases qt : catB xt with
          | false =>
            have EF : Hid (l.all Rw3.ok = false) := Lib.hid (allR_false hl (by rw [EA.out]; unfold Rw3.ok; rw [qf, qt]; rfl))
            have DT : Hid (∀ wx, Calls Tryd.prog 40 #[.int .i64 xt] wx fun e w' => e = .returned (.bool false) ∧ Below wx.heap.size wx w') := Lib.hid (fun wx => by have := DC.out xt wx; rwa [qt] at this)
            clear EA HE
            go_wp2_with fail
            (with_reducible refine (DF.out _).mono ?_)
            rintro e v2 ⟨rfl, hb2⟩
            have H2 := Lib.hid (H1.out.trans (hb2.mono H1.out.size))
            have C2 := Lib.hid (C1.out.keep hb2 zz1)
            have zz2 : wr.heap.size < v2.heap.size := Nat.lt_of_lt_of_le zz1 hb2.size
            clear hb2 x0 x1 x2
            obtain ⟨x0, x1, x2⟩ := C2.out
            go_wp2_with fail
            (with_reducible refine (DT.out _).mono ?_)
            rintro e v3 ⟨rfl, hb3⟩
            have H3 := Lib.hid (H2.out.trans (hb3.mono H2.out.size))
            have C3 := Lib.hid (C2.out.keep hb3 zz2)
            have zz3 : wr.heap.size < v3.heap.size := Nat.lt_of_lt_of_le zz2 hb3.size
            clear hb3 x0 x1 x2
            obtain ⟨x0, x1, x2⟩ := C3.out
            go_wp2
            go_ret2
            exact ⟨ret_rg (HYY.out.trans (rgV_bad H256.out EF.out)), H3.out⟩
          | true =>
            have DT : Hid (∀ wx, Calls Tryd.prog 40 #[.int .i64 xt] wx fun e w' => e = .returned (.bool true) ∧ Below wx.heap.size wx w') := Lib.hid (fun wx => by have := DC.out xt wx; rwa [qt] at this)
            cases qc : catB xc with
            | false =>
              have EF : Hid (l.all Rw3.ok = false) := Lib.hid (allR_false hl (by rw [EA.out]; unfold Rw3.ok; rw [qf, qt, qc]; rfl))
              have DD : Hid (∀ wx, Calls Tryd.prog 40 #[.int .i64 xc] wx fun e w' => e = .returned (.bool false) ∧ Below wx.heap.size wx w') := Lib.hid (fun wx => by have := DC.out xc wx; rwa [qc] at this)
              clear EA HE
              go_wp2_with fail
              (with_reducible refine (DF.out _).mono ?_)
              rintro e v2 ⟨rfl, hb2⟩
              have H2 := Lib.hid (H1.out.trans (hb2.mono H1.out.size))
              have C2 := Lib.hid (C1.out.keep hb2 zz1)
              have zz2 : wr.heap.size < v2.heap.size := Nat.lt_of_lt_of_le zz1 hb2.size
              clear hb2 x0 x1 x2
              obtain ⟨x0, x1, x2⟩ := C2.out
              go_wp2_with fail
              (with_reducible refine (DT.out _).mono ?_)
              rintro e v3 ⟨rfl, hb3⟩
              have H3 := Lib.hid (H2.out.trans (hb3.mono H2.out.size))
              have C3 := Lib.hid (C2.out.keep hb3 zz2)
              have zz3 : wr.heap.size < v3.heap.size := Nat.lt_of_lt_of_le zz2 hb3.size
              clear hb3 x0 x1 x2
              obtain ⟨x0, x1, x2⟩ := C3.out
              go_wp2_with fail
              (with_reducible refine (DD.out _).mono ?_)
              rintro e v4 ⟨rfl, hb4⟩
              have H4 := Lib.hid (H3.out.trans (hb4.mono H3.out.size))
              have C4 := Lib.hid (C3.out.keep hb4 zz3)
              have zz4 : wr.heap.size < v4.heap.size := Nat.lt_of_lt_of_le zz3 hb4.size
              clear hb4 x0 x1 x2
              obtain ⟨x0, x1, x2⟩ := C4.out
              go_wp2
              go_ret2
              exact ⟨ret_rg (HYY.out.trans (rgV_bad H256.out EF.out)), H4.out⟩
            | true =>
              have DD : Hid (∀ wx, Calls Tryd.prog 40 #[.int .i64 xc] wx fun e w' => e = .returned (.bool true) ∧ Below wx.heap.size wx w') := Lib.hid (fun wx => by have := DC.out xc wx; rwa [qc] at this)
              have EB : Hid ((l.take (k + 1)).all Rw3.ok = true) := Lib.hid (by rw [EA.out]; unfold Rw3.ok; rw [qf, qt, qc]; rfl)
              clear EA HE
              go_wp2_with fail
              (with_reducible refine (DF.out _).mono ?_)
              rintro e v2 ⟨rfl, hb2⟩
              have H2 := Lib.hid (H1.out.trans (hb2.mono H1.out.size))
              have C2 := Lib.hid (C1.out.keep hb2 zz1)
              have zz2 : wr.heap.size < v2.heap.size := Nat.lt_of_lt_of_le zz1 hb2.size
              clear hb2 x0 x1 x2
              obtain ⟨x0, x1, x2⟩ := C2.out
              go_wp2_with fail
              (with_reducible refine (DT.out _).mono ?_)
              rintro e v3 ⟨rfl, hb3⟩
              have H3 := Lib.hid (H2.out.trans (hb3.mono H2.out.size))
              have C3 := Lib.hid (C2.out.keep hb3 zz2)
              have zz3 : wr.heap.size < v3.heap.size := Nat.lt_of_lt_of_le zz2 hb3.size
              clear hb3 x0 x1 x2
              obtain ⟨x0, x1, x2⟩ := C3.out
              go_wp2_with fail
              (with_reducible refine (DD.out _).mono ?_)
              rintro e v4 ⟨rfl, hb4⟩
              have H4 := Lib.hid (H3.out.trans (hb4.mono H3.out.size))
              have C4 := Lib.hid (C3.out.keep hb4 zz3)
              have zz4 : wr.heap.size < v4.heap.size := Nat.lt_of_lt_of_le zz3 hb4.size
              clear hb4 x0 x1 x2
              obtain ⟨x0, x1, x2⟩ := C4.out
              go_wp2
              go_roundw
              case rel => exact ⟨k + 1, by go_num, by omega, EB, H4⟩
              case measure => simp [intOf]; omega
      · have hlt2 : ¬ ((k : Int) < (n : Int)) := by omega
        have EF : Hid (l.all Rw3.ok = true) := Lib.hid (by
          have := HE.out
          rwa [List.take_of_length_le (by rw [HL.out]; omega)] at this)
        clear HE
        cases qa : catB a with
        | false =>
          have HV := Lib.hid (HYY.out.trans (rgV_a H256.out EF.out qa))
          have DA : Hid (∀ wx, Calls Tryd.prog 40 #[.int .i64 a] wx fun e w' => e = .returned (.bool false) ∧ Below wx.heap.size wx w') := Lib.hid (fun wx => by have := DC.out a wx; rwa [qa] at this)
          go_wp2_with fail
          (with_reducible refine (DA.out _).mono ?_)
          rintro e v2 ⟨rfl, hb2⟩
          have H2 := Lib.hid (HW.out.trans (hb2.mono HW.out.size))
          clear hb2
          go_wp2
          go_ret2
          exact ⟨ret_rg HV.out, H2.out⟩
        | true =>
          have DA : Hid (∀ wx, Calls Tryd.prog 40 #[.int .i64 a] wx fun e w' => e = .returned (.bool true) ∧ Below wx.heap.size wx w') := Lib.hid (fun wx => by have := DC.out a wx; rwa [qa] at this)
          cases qb : catB b with
          | false =>
            have HV := Lib.hid (HYY.out.trans (rgV_b H256.out EF.out qa qb))
            have DB : Hid (∀ wx, Calls Tryd.prog 40 #[.int .i64 b] wx fun e w' => e = .returned (.bool false) ∧ Below wx.heap.size wx w') := Lib.hid (fun wx => by have := DC.out b wx; rwa [qb] at this)
            go_wp2_with fail
            (with_reducible refine (DA.out _).mono ?_)
            rintro e v2 ⟨rfl, hb2⟩
            have H2 := Lib.hid (HW.out.trans (hb2.mono HW.out.size))
            clear hb2
            go_wp2_with fail
            (with_reducible refine (DB.out _).mono ?_)
            rintro e v3 ⟨rfl, hb3⟩
            have H3 := Lib.hid (H2.out.trans (hb3.mono H2.out.size))
            clear hb3
            go_wp2
            go_ret2
            exact ⟨ret_rg HV.out, H3.out⟩
          | true =>
            have DB : Hid (∀ wx, Calls Tryd.prog 40 #[.int .i64 b] wx fun e w' => e = .returned (.bool true) ∧ Below wx.heap.size wx w') := Lib.hid (fun wx => by have := DC.out b wx; rwa [qb] at this)
            go_wp2_with fail
            (with_reducible refine (DA.out _).mono ?_)
            rintro e v2 ⟨rfl, hb2⟩
            have H2 := Lib.hid (HW.out.trans (hb2.mono HW.out.size))
            clear hb2
            go_wp2_with fail
            (with_reducible refine (DB.out _).mono ?_)
            rintro e v3 ⟨rfl, hb3⟩
            have H3 := Lib.hid (H2.out.trans (hb3.mono H2.out.size))
            clear hb3
            go_wp2
            go_loopw [48] (fun i wy => ∃ j : Nat, i = .int .i64 j ∧ j ≤ n ∧ Hid (∀ i, i < j → Rw3.is a b (l.getD i Rw3.nil) = false) ∧ Hid (Below w.heap.size w wy)) (fun i _ => n - (intOf i).toNat)
            case atStart => exact ⟨0, rfl, by omega, Lib.hid (fun i hi => absurd hi (Nat.not_lt_zero _)), H3⟩
            case round =>
              obtain ⟨j, rfl, hj, HJ, HY⟩ := hrel
              rename World => wy
              have hy := HY.out.size
              by_cases hjl : j < n
              · have hjl2 : ((j : Int) < (n : Int)) := by omega
                obtain ⟨g, off, had, hg, hA⟩ := (HR.out.keep HY.out).at_ (by omega)
                obtain ⟨c0, c1, c2⟩ := hA j hjl
                have hl : j < l.length := by rw [HL.out]; exact hjl
                have HX : Hid (l.getD j Rw3.nil = l.getD j Rw3.nil) := Lib.hid rfl
                obtain ⟨x, hx⟩ : ∃ x, x = l.getD j Rw3.nil := ⟨_, rfl⟩
                rw [← hx] at c0 c1 c2
                have HXX := Lib.hid hx
                clear hA hx
                subst had
                obtain ⟨xf, xt, xc⟩ := x
                simp only at c0 c1 c2
                have hb1 : Below wy.heap.size wy (wy.alloc (.cells #[.int .i64 xf, .int .i64 xt, .int .i64 xc] 88)) := (Below.refl _ _).alloc (Nat.le_refl _) _
                have H5 := Lib.hid (HY.out.trans (hb1.mono hy))
                clear hb1
                cases q1 : (xf == a) with
                | false =>
                  have HN : Hid (Rw3.is a b (l.getD j Rw3.nil) = false) := Lib.hid (by rw [← HXX.out]; unfold Rw3.is; rw [q1]; rfl)
                  go_wp2
                  go_roundw
                  case rel => exact ⟨j + 1, by go_num, by omega, Lib.hid (fun i hi => by
                    by_cases e : i = j
                    · rw [e]; exact HN.out
                    · exact HJ.out i (by omega)), H5⟩
                  case measure => simp [intOf]; omega
                | true =>
                  cases q2 : (xt == b) with
                  | false =>
                    have HN : Hid (Rw3.is a b (l.getD j Rw3.nil) = false) := Lib.hid (by rw [← HXX.out]; unfold Rw3.is; rw [q1, q2]; rfl)
                    go_wp2
                    go_roundw
                    case rel => exact ⟨j + 1, by go_num, by omega, Lib.hid (fun i hi => by
                      by_cases e : i = j
                      · rw [e]; exact HN.out
                      · exact HJ.out i (by omega)), H5⟩
                    case measure => simp [intOf]; omega
                  | true =>
                    have HN : Hid (y = (xc, 0)) := Lib.hid ((HYY.out.trans (rgV_hit H256.out EF.out qa qb (findIdx_hit Rw3.nil hl (by rw [← HXX.out]; unfold Rw3.is; rw [q1, q2]; rfl) HJ.out) hl)).trans (by rw [← HXX.out]))
                    go_wp2
                    go_ret2
                    exact ⟨ret_rg HN.out, H5.out⟩
              · have hjl2 : ¬ ((j : Int) < (n : Int)) := by omega
                have HN : Hid (y = (b, 0)) := Lib.hid (HYY.out.trans (rgV_no H256.out EF.out qa qb (findIdx_no Rw3.nil (fun i hi => HJ.out i (by rw [HL.out] at hi; omega)))))
                go_wp2
                go_ret2
                exact ⟨ret_rg HN.out, HY.out⟩
end Go.Proofs.YtebbmelmifffgaaDoor
