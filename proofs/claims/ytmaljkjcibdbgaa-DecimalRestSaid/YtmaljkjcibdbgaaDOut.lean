/- What calls tell of decimals that may be: an error, or a decimal. -/
import Derived.Test.YtmaljkjcibdbgaaDMoves
import Derived.Test.YtmaljkjcibdbgaaDDiv
import Derived.Test.YtmaljkjcibdbgaaDFine
import Derived.Test.YtmaljkjcibdbgaaDMulT
namespace Go.Proofs.Ytmaljkjcibdbgaa
open Go.RowKit

theorem sh_some {d x : Dc} {n : Int} (h : shD d n = some x) : x.Ok := by
  unfold shD at h
  split at h
  · exact (mk_some h).2.2.1
  · exact (mk_some h).2.2.1
/-- What a call tells: an error, or a decimal. -/
def TellsErr (f : FuncId) (args : Array Value) (c : Int) : Prop := ∀ wx : World, Calls Try.prog f args wx fun e w' => e = .returned (.tuple #[.agg #[.bool false, .string ⟨#[]⟩, .string ⟨#[]⟩], .int .i64 c]) ∧ Below wx.heap.size wx w'
def TellsDec (f : FuncId) (args : Array Value) (d : Dc) : Prop := ∀ wx : World, Calls Try.prog f args wx fun e w' => e = .returned (.tuple #[.agg #[.bool d.neg, .string (dStr d.i), .string (dStr d.f)], .int .i64 0]) ∧ Below wx.heap.size wx w'
def TellsOpt (f : FuncId) (args : Array Value) (o : Option Dc) (c : Int) : Prop := ∀ wx : World, Calls Try.prog f args wx fun e w' => e = .returned (.tuple #[.agg #[.bool (oN o), .string (oI o), .string (oF o)], .int .i64 c]) ∧ Below wx.heap.size wx w'
theorem shift_opt (d : Dc) (n : Int) (hd : d.Ok) : ∃ (o : Option Dc) (c : Int), TellsOpt 31 #[.agg #[.bool d.neg, .string (dStr d.i), .string (dStr d.f)], .int .i64 n] o c ∧ (c = 0 → ∃ x, o = some x ∧ x.Ok ∧ -40 ≤ n ∧ n ≤ 40 ∧ shD d n = some x) := by
  by_cases h0 : n < -40
  · exact ⟨none, 1, fun wx => shift_lo d n wx hd h0, fun h => by cases h⟩
  by_cases h1 : 40 < n
  · exact ⟨none, 1, fun wx => shift_hi d n wx hd h1, fun h => by cases h⟩
  refine ⟨shD d n, oE (shD d n), fun wx => shift_ok d n wx _ rfl hd (by omega) (by omega), fun h => ?_⟩
  cases ho : shD d n with
  | none => rw [ho] at h; cases h
  | some x => exact ⟨x, rfl, sh_some ho, by omega, by omega, rfl⟩
theorem fine_oks (l : List (Bool × ByteArray × ByteArray)) (n : Nat) (hn : l.length = n) (hl : n ≤ 1000) (h : ∀ x ∈ l, okB x.1 x.2.1 x.2.2 = true) (wx : World) (g : Nat) (hg : g = wx.heap.size) :
    Calls Try.prog 29 #[.slice (some ⟨g, 0, none⟩) n n] (wx.alloc (.cells (flat l).toArray 23)) fun e w' => e = .returned (.bool true) ∧ Below wx.heap.size wx w' := by
  subst hg
  refine (fine_any l wx.heap.size n 23 (0, 0) _ (heap_alloc_new wx _) hn hl ?_).mono ?_
  · intro k hk
    have hm : l.getD k dz ∈ l := by
      rw [List.getD_eq_getElem?_getD, List.getElem?_eq_getElem (by omega)]
      exact List.getElem_mem _
    have := h _ hm
    unfold okB at this
    simp only [Bool.and_eq_true, decide_eq_true_eq] at this
    omega
  · rintro e w' ⟨rfl, hb⟩
    have e1 : l.all okL = true := List.all_eq_true.2 h
    rw [e1]
    exact ⟨rfl, ((Below.refl _ _).alloc (Nat.le_refl _) _).trans (hb.mono (by simp))⟩
theorem quo_some {a b q : Dc} (h : quoD a b = some q) : q.Ok ∧ q.f = [] := by
  obtain ⟨-, h2, h3, -⟩ := mk_some h
  exact ⟨h3, List.eq_nil_of_length_eq_zero h2⟩
theorem up_neg {d : Dc} (s : Nat) : d.up s < 0 → d.neg = true := by
  intro h
  rw [up_raised] at h
  cases hn : d.neg with
  | true => rfl
  | false => rw [hn] at h; simp at h; omega
def absD (d : Dc) : Dc := ⟨false, d.i, d.f⟩
theorem abs_ok {d : Dc} (h : d.Ok) : (absD d).Ok := ⟨h.di, h.df, h.one, h.most, h.lead, fun e => by cases e⟩
theorem abs_up (d : Dc) (s : Nat) : (absD d).up s = ((d.up s).natAbs : Int) := by
  rw [up_raised, up_raised]
  show (if (absD d).neg = true then -((absD d).raised s : Int) else ((absD d).raised s : Int)) = _
  have e : (absD d).raised s = d.raised s := rfl
  rw [e, if_neg (show ¬ (absD d).neg = true from Bool.false_ne_true)]
  split <;> simp
theorem z_num (d : Dc) : d.z = 0 ↔ d.num = 0 := by
  unfold Dc.z
  split <;> omega
end Go.Proofs.Ytmaljkjcibdbgaa
