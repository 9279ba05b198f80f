/- DecimalShifts, put together. -/
import Derived.Test.YtohppejblbeemaaLawShifts
namespace Go.Proofs.Ytohppejblbeemaa
open Go.RowKit

theorem trim_twice {d : Dc} (h : d.Ok) : trimD (trimD d) = trimD d := by
  obtain ⟨h1, _, h3⟩ := trim_facts h
  obtain ⟨k1, k2, k3⟩ := trim_facts h1
  exact trimmed_same k1 h1 k3 h3 k2
theorem pad_some {d p : Dc} {k : Nat} (h : padD d k = some p) : p.Ok ∧ p.f.length = max d.f.length k ∧ cmpD p d = 0 := by
  have e : padD d k = mk (d.up (max d.f.length k)) (max d.f.length k) := by
    unfold padD mkN
    rw [up_raised]
  rw [e] at h
  obtain ⟨h1, h2, h3, _⟩ := mk_some h
  refine ⟨h3, h2, ?_⟩
  rw [cmp_zero (max d.f.length k) (by omega) (by omega)]
  rw [← h1, ← h2, up_same]
theorem sh_some {d x : Dc} {n : Int} (h : shD d n = some x) : x.Ok := by
  unfold shD at h
  split at h
  · exact (mk_some h).2.2.1
  · exact (mk_some h).2.2.1

/-- What a call tells: an error, or a decimal. -/
def TellsErr (f : FuncId) (args : Array Value) (c : Int) : Prop := ∀ wx : World, Calls Try.prog f args wx fun e w' => e = .returned (.tuple #[.agg #[.bool false, .string ⟨#[]⟩, .string ⟨#[]⟩], .int .i64 c]) ∧ Below wx.heap.size wx w'
def TellsDec (f : FuncId) (args : Array Value) (d : Dc) : Prop := ∀ wx : World, Calls Try.prog f args wx fun e w' => e = .returned (.tuple #[.agg #[.bool d.neg, .string (dStr d.i), .string (dStr d.f)], .int .i64 0]) ∧ Below wx.heap.size wx w'
theorem pad_out (d : Dc) (k : Int) (hd : d.Ok) : (∃ c, c ≠ 0 ∧ TellsErr 36 #[.agg #[.bool d.neg, .string (dStr d.i), .string (dStr d.f)], .int .i64 k] c) ∨
    ∃ p : Dc, p.Ok ∧ cmpD p d = 0 ∧ ((p.f.length : Nat) : Int) = max k ((d.f.length : Nat) : Int) ∧ TellsDec 36 #[.agg #[.bool d.neg, .string (dStr d.i), .string (dStr d.f)], .int .i64 k] p := by
  by_cases h0 : k < 0
  · exact .inl ⟨1, by decide, fun wx => pad_lo d k wx hd h0⟩
  by_cases h1 : 40 < k
  · exact .inl ⟨1, by decide, fun wx => pad_hi d k wx hd h1⟩
  obtain ⟨m, rfl⟩ : ∃ m : Nat, k = m := ⟨k.toNat, by omega⟩
  cases ho : padD d m with
  | none => exact .inl ⟨3, by decide, fun wx => pad_ok d m wx none ho hd (by omega)⟩
  | some p =>
    obtain ⟨p1, p2, p3⟩ := pad_some ho
    exact .inr ⟨p, p1, p3, by omega, fun wx => pad_ok d m wx (some p) ho hd (by omega)⟩
theorem shift_out (d : Dc) (n : Int) (hd : d.Ok) : (∃ c, c ≠ 0 ∧ TellsErr 38 #[.agg #[.bool d.neg, .string (dStr d.i), .string (dStr d.f)], .int .i64 n] c) ∨
    ∃ x : Dc, x.Ok ∧ -40 ≤ n ∧ n ≤ 40 ∧ shD d n = some x ∧ TellsDec 38 #[.agg #[.bool d.neg, .string (dStr d.i), .string (dStr d.f)], .int .i64 n] x := by
  by_cases h0 : n < -40
  · exact .inl ⟨1, by decide, fun wx => shift_lo d n wx hd h0⟩
  by_cases h1 : 40 < n
  · exact .inl ⟨1, by decide, fun wx => shift_hi d n wx hd h1⟩
  cases ho : shD d n with
  | none => exact .inl ⟨3, by decide, fun wx => shift_ok d n wx none ho hd (by omega) (by omega)⟩
  | some x => exact .inr ⟨x, sh_some ho, by omega, by omega, rfl, fun wx => shift_ok d n wx (some x) ho hd (by omega) (by omega)⟩

theorem shifts_walk (b : Bool) (i f : ByteArray) (n k : Int) (w : World) (hi : i.size ≤ 140737488355328) (hf : f.size ≤ 140737488355328) (_h1 : -9223372036854775808 ≤ n) (h2 : n ≤ 9223372036854775807) (_h3 : -9223372036854775808 ≤ k) (_h4 : k ≤ 9223372036854775807) :
    Calls Try.prog 12 #[.agg #[.bool b, .string i, .string f], .int .i64 n, .int .i64 k] w fun e w' => e = .returned (.bool true) ∧ Below w.heap.size w w' := by
  cases hk : okB b i f with
  | false => exact shifts_bad b i f n k w hi hf hk
  | true =>
    obtain ⟨d, hd, rfl, rfl, rfl⟩ := ok_cases hk
    obtain ⟨t1, t2, _⟩ := trim_facts hd
    have H1 := fun wx => trim_ok d wx hd
    have H2 := fun wx => trim_ok (trimD d) wx t1
    rw [trim_twice hd] at H2
    have H3 := fun wx => great_yes (trimD d) d wx t1 hd t2
    rcases pad_out d k hd with ⟨c4, h4, P⟩ | ⟨p, p1, p2, p3, P⟩
    · rcases shift_out d n hd with ⟨c6, h6, X⟩ | ⟨x, x1, r1, r2, x2, X⟩
      · exact shifts_ee _ _ _ _ _ _ n k w c4 c6 H1 H2 H3 P X h4 h6
      · rcases shift_out x (-n) x1 with ⟨c7, h7, Y⟩ | ⟨y, y1, _, _, y2, Y⟩
        · exact shifts_e1 _ _ _ _ _ _ n k w h2 c4 _ _ _ c7 H1 H2 H3 P X Y h4 (by omega) h7
        · exact shifts_e2 _ _ _ _ _ _ n k w h2 c4 _ _ _ _ _ _ H1 H2 H3 P X Y (fun wx => great_yes y d wx y1 hd (sh_back x2 y2)) h4 (by omega)
    · have G := fun wx => great_yes p d wx p1 hd p2
      have hl : ((dStr p.f).size : Int) = max k ((dStr d.f).size : Int) := by rw [dStr_size, dStr_size]; exact p3
      rcases shift_out d n hd with ⟨c6, h6, X⟩ | ⟨x, x1, r1, r2, x2, X⟩
      · exact shifts_oe _ _ _ _ _ _ n k w _ _ _ c6 H1 H2 H3 P G X hl h6
      · rcases shift_out x (-n) x1 with ⟨c7, h7, Y⟩ | ⟨y, y1, _, _, y2, Y⟩
        · exact shifts_o1 _ _ _ _ _ _ n k w h2 _ _ _ _ _ _ c7 H1 H2 H3 P G X Y hl (by omega) h7
        · exact shifts_o2 _ _ _ _ _ _ n k w h2 _ _ _ _ _ _ _ _ _ H1 H2 H3 P G X Y (fun wx => great_yes y d wx y1 hd (sh_back x2 y2)) hl (by omega)
end Go.Proofs.Ytohppejblbeemaa
