/- awake: the layer answers the two small asks. -/
import Derived.Test.YtgakophdgjepmaaDoorName
import Derived.Test.YtgakophdgjepmaaDoorFill
namespace Go.Proofs.YtgakophdgjepmaaDoor
open Go.RowKit

def askP : ByteArray := ⟨#[123, 49, 125, 45, 123, 48, 125]⟩
def askA : List ByteArray := [⟨#[97]⟩, ⟨#[98]⟩]
theorem askR : fillR askP askA = ([98, 45, 97], 0) := by
  unfold fillR
  rw [if_neg (by decide)]
  rw [fill_item (x := ⟨#[98]⟩) (by decide) (by decide) (by rfl) (by decide)]
  rw [fill_byte (by decide) (by decide) (by decide)]
  rw [fill_item (x := ⟨#[97]⟩) (by decide) (by decide) (by rfl) (by decide)]
  rw [fill_end (by decide)]
  rfl
theorem askN : identZ ⟨#[110]⟩ = 1 := by
  have hn : numB ⟨#[110]⟩ = false := by decide
  have ho : okFrom ⟨#[110]⟩ 0 = true := by
    rw [ok_next (by decide) (by decide), ok_end (by decide)]
  have hm : nameB ⟨#[110]⟩ = true := by
    unfold nameB
    rw [ho]
    decide
  unfold identZ
  rw [if_neg (by simp [hn]), if_pos hm]

theorem fill_ask (b t : Nat) (fr : Nat × Nat) (W : World) (hg : W.heap[b]? = some (.cells #[.string ⟨#[97]⟩, .string ⟨#[98]⟩] t fr)) :
    Calls Tryd.prog 29 #[.string ⟨#[123, 49, 125, 45, 123, 48, 125]⟩, .slice (some ⟨b, 0, none⟩) 2 2] W fun e w' => e = .returned (.tuple #[.string ⟨#[98, 45, 97]⟩, .int .i64 0]) ∧ Below W.heap.size W w' := by
  refine (fill_any askP askA _ W (by decide) ⟨some ⟨b, 0, none⟩, 2, rfl, by decide, fun j hj => ⟨b, 0, rfl, (Array.getElem?_eq_some_iff.1 hg).1, ?_⟩⟩).mono ?_
  · have hj2 : j = 0 ∨ j = 1 := by
      have : j < 2 := hj
      omega
    rw [Nat.zero_add, cell_of_row W b j _ _ _ hg]
    rcases hj2 with rfl | rfl <;> rfl
  · rintro e w' ⟨rfl, hb⟩
    exact ⟨by unfold fillEnd; rw [askR], hb⟩
theorem ident_ask (W : World) (hT : TabW W) :
    Calls Tryd.prog 21 #[.string ⟨#[110]⟩] W fun e w' => e = .returned (.int .i64 1) ∧ Below W.heap.size W w' := by
  refine (ident_any ⟨#[110]⟩ W hT).mono ?_
  rintro e w' ⟨rfl, hb⟩
  exact ⟨by rw [askN], hb⟩

set_option maxHeartbeats 1000000 in
set_option maxRecDepth 100000 in
theorem awake_any (w : World) (hT : TabW w) :
    Calls Tryd.prog 16 #[] w fun e w' => e = .returned (.bool true) ∧ Below w.heap.size w w' := by
  have HT := Lib.hid hT
  clear hT
  go_enter Tryd.func16, Tryd.ntmps16
  go_wp2_with fail
  refine (fill_ask w.heap.size _ _ _ (heap_alloc_new w _)).mono ?_
  rintro e W1 ⟨rfl, b1⟩
  have b2 : Below w.heap.size w W1 := ((Below.refl _ w).alloc (Nat.le_refl _) _).trans (b1.mono (by simp))
  have hT1 := Lib.hid (HT.out.below b2 (Nat.le_refl _))
  have hs2 := b2.size
  clear b1
  go_wp2_with (go_at_call 21; refine (ident_ask _ hT1.out).mono ?_)
  rintro e W2 ⟨rfl, b3⟩
  go_wp2
  go_ret
  exact ⟨rfl, b2.trans (b3.mono hs2)⟩
end Go.Proofs.YtgakophdgjepmaaDoor
