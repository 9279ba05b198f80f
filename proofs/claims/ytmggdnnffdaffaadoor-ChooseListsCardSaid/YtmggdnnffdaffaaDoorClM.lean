/- Merged: ClA, ClG, ClP. -/
import Derived.Test.YtmggdnnffdaffaaDoorCpB
import Derived.Test.YtmggdnnffdaffaaDoorSmM
import Derived.Test.YtmggdnnffdaffaaDoorMkF
namespace Go.Proofs.YtmggdnnffdaffaaDoor
section
open Go.RowKit

theorem relE_e {x y : Rl} (h : x.e = y.e) : relE x = relE y := by
  unfold Rl.e at h
  simp only [Prod.mk.injEq] at h
  obtain ⟨h1, h2, h3, h4, h5, h6⟩ := h
  unfold relE
  rw [h1, h2, h5, h6]
theorem hitR_e {p : Dc} {E : Nat} {x y : Rl} (h : x.e = y.e) : hitR p E x = hitR p E y := by
  unfold Rl.e at h
  simp only [Prod.mk.injEq] at h
  obtain ⟨h1, h2, h3, h4, h5, h6⟩ := h
  unfold hitR
  rw [h1, h2, h3, h4, h6]
theorem andE_e {l m : List Rl} (c : Nat) (h : l.map Rl.e = m.map Rl.e) : andE l c = andE m c := by
  induction l generalizing m c with
  | nil => cases m with
    | nil => rfl
    | cons y m => cases h
  | cons x l ih => cases m with
    | nil => cases h
    | cons y m =>
      simp only [List.map_cons, List.cons.injEq] at h
      rw [andE_cons, andE_cons, relE_e h.1, ih (c + 1) h.2]
theorem orE_e {l m : List An} (c : Nat) (h : l.map An.e = m.map An.e) : orE l c = orE m c := by
  induction l generalizing m c with
  | nil => cases m with
    | nil => rfl
    | cons y m => cases h
  | cons x l ih => cases m with
    | nil => cases h
    | cons y m =>
      simp only [List.map_cons, List.cons.injEq] at h
      obtain ⟨h1, h2⟩ := h
      unfold An.e at h1
      simp only [Prod.mk.injEq] at h1
      rw [orE_cons, orE_cons, h1.1, andE_e c h1.2, ih _ h2]
theorem ckT_e {x y : Ru} (h : RuC x y) : ckT y = ckT x := by
  unfold ckT ruE
  rw [orE_e 0 h.or, h.si.1, h.si.2.1, h.sd.1, h.sd.2.1, h.mi, h.md]
theorem all_e {p : Dc} {E : Nat} {l m : List Rl} (h : l.map Rl.e = m.map Rl.e) : l.all (hitR p E) = m.all (hitR p E) := by
  induction l generalizing m with
  | nil => cases m with
    | nil => rfl
    | cons y m => cases h
  | cons x l ih => cases m with
    | nil => cases h
    | cons y m =>
      simp only [List.map_cons, List.cons.injEq] at h
      rw [List.all_cons, List.all_cons, hitR_e h.1, ih h.2]
theorem any_e {p : Dc} {E : Nat} {l m : List An} (h : l.map An.e = m.map An.e) : l.any (fun a => a.l.all (hitR p E)) = m.any (fun a => a.l.all (hitR p E)) := by
  induction l generalizing m with
  | nil => cases m with
    | nil => rfl
    | cons y m => cases h
  | cons x l ih => cases m with
    | nil => cases h
    | cons y m =>
      simp only [List.map_cons, List.cons.injEq] at h
      obtain ⟨h1, h2⟩ := h
      unfold An.e at h1
      simp only [Prod.mk.injEq] at h1
      rw [List.any_cons, List.any_cons, all_e h1.2, ih h2]
theorem holdN_e {p : Dc} {E : Nat} {x y : Ru} (c d : Int) (h : RuC x y) : holdN (hitR p E) ⟨c, y⟩ = holdN (hitR p E) ⟨d, x⟩ := by
  unfold holdN
  simp only
  rw [h.n, any_e h.or]
/-- Holds, of any rule that bears what a copy does, at the operands of a number. -/
theorem Holds_num (x : Dc) (hx : x.Ok) (E : Nat) (hE : E ≤ 40) (y : Ru) (w : World) (hY : RuG w y) (hF : y.F) :
    Calls Tryd.prog 8 #[y.v, (ops9 (absX x) E).v] w fun e w' => e = .returned (.tuple #[.bool (if ckT y = 0 then holdN (hitR (absX x) E) ⟨0, y⟩ else false), .int .i64 (ckT y)]) ∧ Below w.heap.size w w' :=
  Holds_any y _ _ w hY (fun wx => ocheck_ok (absX x) ⟨false, x.i, cutF x⟩ E wx (absX_ok hx) rfl (by omega) (by omega) (absX_trim x))
    (fun h0 a ha r hr => in_set x hx E hE r (hF a ha r hr) ((orE_zero (ruE_zero h0).1 a ha).2 r hr))

/-- One set is another one in memory of its own. -/
def NmC (x y : Nm) : Prop := y.cat = x.cat ∧ RuC x.ru y.ru
def SetC (l m : List Nm) : Prop := m.length = l.length ∧ ∀ k, k < l.length → NmC (l.getD k Nm.nil) (m.getD k Nm.nil)
theorem SetC.tail {x y : Nm} {l m : List Nm} (h : SetC (x :: l) (y :: m)) : NmC x y ∧ SetC l m := by
  refine ⟨h.2 0 (by simp), by have := h.1; simpa using this, fun k hk => ?_⟩
  have := h.2 (k + 1) (by simpa using hk)
  simpa using this
theorem SetC.nil {l m : List Nm} (h : SetC l m) : l = [] → m = [] := fun e => List.eq_nil_of_length_eq_zero (by rw [h.1, e]; rfl)
theorem catIn_e {l m : List Nm} (c : Int) (h : l.map Nm.cat = m.map Nm.cat) : catIn c l = catIn c m := by
  unfold catIn
  have a : ∀ l : List Nm, l.any (fun y => y.cat == c) = (l.map Nm.cat).any (fun z => z == c) := fun l => by rw [List.any_map]; rfl
  rw [a, a, h]
theorem nmE_e {x y : Nm} {b d : List Nm} (hb : b.map Nm.cat = d.map Nm.cat) (h : NmC x y) : nmE ckT y d = nmE ckT x b := by
  unfold nmE plE
  rw [h.1, catIn_e x.cat hb, catIn_e 0 hb, ckT_e h.2, h.2.n]
theorem setE_e {l m b d : List Nm} (hb : b.map Nm.cat = d.map Nm.cat) (h : SetC l m) : setE ckT d m = setE ckT b l := by
  induction l generalizing m b d with
  | nil => rw [h.nil rfl]; rfl
  | cons x l ih => cases m with
    | nil => have := h.1; simp at this
    | cons y m =>
      obtain ⟨h1, h2⟩ := h.tail
      rw [setE_cons, setE_cons, nmE_e hb h1, ih (b := b ++ [x]) (d := d ++ [y]) (by rw [List.map_append, List.map_append, hb]; show _ = _ ++ [y.cat]; rw [h1.1]; rfl) h2]
theorem find_e {p : Dc} {E : Nat} {l m : List Nm} (h : SetC l m) : m.findIdx (holdN (hitR p E)) = l.findIdx (holdN (hitR p E)) := by
  induction l generalizing m with
  | nil => rw [h.nil rfl]
  | cons x l ih => cases m with
    | nil => have := h.1; simp at this
    | cons y m =>
      obtain ⟨h1, h2⟩ := h.tail
      have e : holdN (hitR p E) y = holdN (hitR p E) x := holdN_e y.cat x.cat h1.2
      rw [List.findIdx_cons, List.findIdx_cons, e, ih h2]
theorem pkC_e {p : Dc} {E : Nat} {l m : List Nm} (h : SetC l m) : pkC (hitR p E) m = pkC (hitR p E) l := by
  unfold pkC
  rw [find_e h]
  by_cases hk : l.findIdx (holdN (hitR p E)) < l.length
  · exact (h.2 _ hk).1
  · rw [List.getD_eq_getElem?_getD, List.getD_eq_getElem?_getD, List.getElem?_eq_none (by rw [h.1]; omega), List.getElem?_eq_none (by omega)]
theorem setE_take {ck : Ru → Int} {l b : List Nm} (j : Nat) (h : setE ck b l = 0) : setE ck b (l.take j) = 0 := by
  induction l generalizing b j with
  | nil => rw [List.take_nil]; rfl
  | cons x l ih => cases j with
    | zero => rfl
    | succ j =>
      rw [setE_cons] at h
      rw [List.take_succ_cons, setE_cons]
      by_cases h0 : nmE ck x b = 0
      · rw [if_pos h0] at h ⊢
        exact ih j h
      · rw [if_neg h0] at h
        exact absurd h h0
theorem ckT_or (x : Ru) (h : ckT x = 0) : orE x.l 0 = 0 := (ruE_zero h).1
theorem ckT_told (x : Ru) : CkR ckT x := fun wx hX => check_rule x wx hX

/-- A rule of one relation, of one list. -/
theorem andE_mono {l : List Rl} {c : Nat} (hc : c ≤ 64) (h : (andE l c).1 = 0) : l.length + c ≤ 64 := by
  induction l generalizing c with
  | nil => simpa using hc
  | cons x l ih =>
    rw [andE_cons] at h
    by_cases h6 : c = 64
    · rw [if_pos h6] at h; cases h
    · rw [if_neg h6] at h
      by_cases hx : relE x = 0
      · rw [if_pos hx] at h
        have := ih (by omega) h
        rw [List.length_cons]; omega
      · rw [if_neg hx] at h
        exact absurd h hx
theorem andE_ok {l : List Rl} {c : Nat} (hl : l.length + c ≤ 64) (h : ∀ r ∈ l, relE r = 0) : (andE l c).1 = 0 := by
  induction l generalizing c with
  | nil => rfl
  | cons x l ih =>
    rw [List.length_cons] at hl
    rw [andE_cons, if_neg (by omega), if_pos (h x (List.mem_cons_self ..))]
    exact ih (by omega) (fun r hr => h r (List.mem_cons_of_mem _ hr))
theorem orE_each {l : List An} {c : Nat} (hc : c ≤ 64) (h : orE l c = 0) : ∀ a ∈ l, a.n ≠ 0 ∧ a.l.length ≤ 64 ∧ ∀ r ∈ a.l, relE r = 0 := by
  induction l generalizing c with
  | nil => intro a ha; cases ha
  | cons x l ih =>
    rw [orE_cons] at h
    by_cases h0 : x.n = 0
    · rw [if_pos h0] at h; cases h
    · rw [if_neg h0] at h
      by_cases hx : (andE x.l c).1 = 0
      · rw [if_pos hx] at h
        intro a ha
        rcases List.mem_cons.1 ha with rfl | ha
        · exact ⟨h0, by have := andE_mono hc hx; omega, andE_zero hx⟩
        · exact ih (andE_count _ _ hc) h a ha
      · rw [if_neg hx] at h
        exact absurd h hx
theorem ruE_bare {x : Ru} (h : orE x.l 0 = 0) (h1 : x.si.l = []) (h2 : x.sd.l = []) (h3 : x.mi = false) (h4 : x.md = false) : ckT x = 0 := by
  unfold ckT ruE
  rw [h1, h2, h, h3, h4, if_neg (by decide), if_neg (by decide), if_neg (by decide), if_neg (by simp), if_neg (by simp)]
theorem ck_alone {a : An} (y : Ru) (hy : y.l.map An.e = [a.e]) (h0 : a.n ≠ 0) (h1 : a.l.length ≤ 64) (h2 : ∀ r ∈ a.l, relE r = 0) (s1 : y.si.l = []) (s2 : y.sd.l = []) (s3 : y.mi = false) (s4 : y.md = false) : ckT y = 0 := by
  refine ruE_bare ?_ s1 s2 s3 s4
  rw [orE_e (m := [a]) 0 (by rw [hy]; rfl), orE_cons, if_neg h0, if_pos (andE_ok (by omega) h2)]
  rfl
theorem hold_alone {p : Dc} {E : Nat} {a : An} (c : Int) (y : Ru) (hn : y.n = 1) (hy : y.l.map An.e = [a.e]) : holdN (hitR p E) ⟨c, y⟩ = a.l.all (hitR p E) := by
  unfold holdN
  simp only
  rw [any_e (m := [a]) (by rw [hy]; rfl), hn, List.any_cons, List.any_nil, Bool.or_false, decide_eq_false (by decide), Bool.false_or]
end
section
open Go.RowKit

theorem trim_eq {a b : Dc} (ha : a.Ok) (hb : b.Ok) (h : cmpD (absX a) (absX b) = 0) : a.i = b.i ∧ cutF a = cutF b := by
  obtain ⟨p1, p2, p3⟩ := trim_facts (absX_ok ha)
  obtain ⟨q1, q2, q3⟩ := trim_facts (absX_ok hb)
  have la : (trimD (absX a)).f.length ≤ (absX a).f.length := by unfold trimD; simp only; rw [List.length_take]; omega
  have lb : (trimD (absX b)).f.length ≤ (absX b).f.length := by unfold trimD; simp only; rw [List.length_take]; omega
  obtain ⟨s, hs⟩ : ∃ s, s = max (absX a).f.length (absX b).f.length := ⟨_, rfl⟩
  have h' := (cmp_zero s (by omega) (by omega)).1 h
  have p' := (cmp_zero s (by omega) (by omega)).1 p2
  have q' := (cmp_zero s (by omega) (by omega)).1 q2
  have e := trimmed_same p1 q1 p3 q3 ((cmp_zero s (by omega) (by omega)).2 (by rw [p', h', q']))
  rw [absX_trim, absX_trim] at e
  simp only [Dc.mk.injEq] at e
  exact ⟨e.2.1, e.2.2⟩
def opN (r : Rl) : Prop := r.op = ⟨#[110]⟩
theorem hit_n {a b : Dc} {r : Rl} (hr : opN r) (h1 : a.i = b.i) (h2 : cutF a = cutF b) : hitR (absX a) 0 r = hitR (absX b) 0 r := by
  have e : ∀ x : Dc, letD (absX x) 0 r.op = some ⟨false, x.i, cutF x⟩ := fun x => by
    unfold letD
    rw [show r.op = ⟨#[110]⟩ from hr, if_pos rfl]
    rfl
  unfold hitR
  rw [e a, e b, h1, h2]
theorem all_n {a b : Dc} (h1 : a.i = b.i) (h2 : cutF a = cutF b) {l : List Rl} (h : ∀ r ∈ l, opN r) : l.all (hitR (absX a) 0) = l.all (hitR (absX b) 0) := by
  induction l with
  | nil => rfl
  | cons x l ih => rw [List.all_cons, List.all_cons, hit_n (h x (List.mem_cons_self ..)) h1 h2, ih (fun r hr => h r (List.mem_cons_of_mem _ hr))]
theorem any_n {a b : Dc} (h1 : a.i = b.i) (h2 : cutF a = cutF b) {l : List An} (h : ∀ y ∈ l, ∀ r ∈ y.l, opN r) : l.any (fun y => y.l.all (hitR (absX a) 0)) = l.any (fun y => y.l.all (hitR (absX b) 0)) := by
  induction l with
  | nil => rfl
  | cons x l ih => rw [List.any_cons, List.any_cons, all_n h1 h2 (h x (List.mem_cons_self ..)), ih (fun r hr => h r (List.mem_cons_of_mem _ hr))]
theorem hold_n {a b : Dc} (h1 : a.i = b.i) (h2 : cutF a = cutF b) {x : Nm} (h : ∀ y ∈ x.ru.l, ∀ r ∈ y.l, opN r) : holdN (hitR (absX a) 0) x = holdN (hitR (absX b) 0) x := by
  unfold holdN
  rw [any_n h1 h2 h]
theorem pk_n {a b : Dc} (h1 : a.i = b.i) (h2 : cutF a = cutF b) {l : List Nm} (h : ∀ x ∈ l, ∀ y ∈ x.ru.l, ∀ r ∈ y.l, opN r) : pkC (hitR (absX a) 0) l = pkC (hitR (absX b) 0) l := by
  have e : ∀ l : List Nm, (∀ x ∈ l, ∀ y ∈ x.ru.l, ∀ r ∈ y.l, opN r) → l.findIdx (holdN (hitR (absX a) 0)) = l.findIdx (holdN (hitR (absX b) 0)) := fun l => by
    induction l with
    | nil => intro _; rfl
    | cons x l ih =>
      intro h
      rw [List.findIdx_cons, List.findIdx_cons, hold_n h1 h2 (h x (List.mem_cons_self ..)), ih (fun x hx => h x (List.mem_cons_of_mem _ hx))]
  unfold pkC
  rw [e l h]
end
section
open Go.RowKit

/-- Pick of any copy of a set returns so. -/
def PkC (l : List Nm) (dn : Bool) (di df : ByteArray) (k a c : Int) : Prop := ∀ (ad : Option Addr) (n cap : Nat) (m : List Nm) (W : World), SetG W ad n m → n ≤ cap → (∀ x ∈ m, x.ru.F) → SetC l m →
  Calls Tryd.prog 11 #[.agg #[.slice ad n cap], .agg #[.bool dn, .string di, .string df], .int .i64 k] W fun e w' => e = .returned (.tuple #[.int .i64 a, .int .i64 c]) ∧ Below W.heap.size W w'
theorem pick_right {d x : Dc} {k : Int} (hd : d.Ok) (hx : x.Ok) (hk1 : 0 ≤ k) (hk2 : k ≤ 40) (ho : shD d k = some x) (l : List Nm) (hs : setE ckT [] l = 0) :
    PkC l d.neg (dStr d.i) (dStr d.f) k (pkC (hitR (absX x) k.toNat) l) 0 := fun ad n cap m W hS hc hF hC => by
  have K := Pick_at ckT ckT_or d x k hd hx hk1 hk2 ho ad n cap m W (fun y _ => ckT_told y.ru) hS hc hF (by rw [setE_e rfl hC]; exact hs)
  rwa [pkC_e hC] at K
theorem pick_wrong (dn : Bool) (di df : ByteArray) (k : Int) (l : List Nm) (hs : setE ckT [] l ≠ 0) : PkC l dn di df k 0 (setE ckT [] l) := fun ad n cap m W hS hc _ hC => by
  have K := Pick_wrong ckT dn di df k ad n cap m W (fun y _ => ckT_told y.ru) hS hc (by rw [setE_e rfl hC]; exact hs)
  rwa [setE_e rfl hC] at K
theorem pick_none (dn : Bool) (di df : ByteArray) (k c : Int) (hc0 : c ≠ 0)
    (HO : ∀ wx : World, Calls Tryd.prog 7 #[.agg #[.bool dn, .string di, .string df], .int .i64 k] wx fun e w' => e = .returned (.tuple #[.agg #[.bool false, .string ⟨#[]⟩, .string ⟨#[]⟩, .string ⟨#[]⟩, .int .i64 0, .int .i64 0, .string ⟨#[]⟩, .string ⟨#[]⟩, .int .i64 0], .int .i64 c]) ∧ Below wx.heap.size wx w')
    (l : List Nm) (hs : setE ckT [] l = 0) : PkC l dn di df k 0 c := fun ad n cap m W hS hc _ hC =>
  Pick_none ckT dn di df k c hc0 HO ad n cap m W (fun y _ => ckT_told y.ru) hS hc (by rw [setE_e rfl hC]; exact hs)
/-- Pick by cases. -/
theorem pick_cases (dn : Bool) (di df : ByteArray) (k : Int) (h1 : di.size ≤ 140737488355328) (h2 : df.size ≤ 140737488355328) (l : List Nm) :
    (∃ c : Int, c ≠ 0 ∧ PkC l dn di df k 0 c) ∨ (setE ckT [] l = 0 ∧ ∃ d x : Dc, d.Ok ∧ x.Ok ∧ dn = d.neg ∧ di = dStr d.i ∧ df = dStr d.f ∧ 0 ≤ k ∧ k ≤ 40 ∧ shD d k = some x ∧ PkC l dn di df k (pkC (hitR (absX x) k.toNat) l) 0) := by
  by_cases hs : setE ckT [] l = 0
  · rcases of_cases dn di df k h1 h2 with ⟨c, hc, -, HO⟩ | ⟨d, x, hd, rfl, rfl, rfl, hk1, hk2, ho, hx⟩
    · have hc0 : c ≠ 0 := by rcases hc with rfl | rfl | rfl <;> decide
      exact .inl ⟨c, hc0, pick_none dn di df k c hc0 HO l hs⟩
    · exact .inr ⟨hs, d, x, hd, hx, rfl, rfl, rfl, hk1, hk2, ho, pick_right hd hx hk1 hk2 ho l hs⟩
  · exact .inl ⟨_, hs, pick_wrong dn di df k l hs⟩
end
end Go.Proofs.YtmggdnnffdaffaaDoor
