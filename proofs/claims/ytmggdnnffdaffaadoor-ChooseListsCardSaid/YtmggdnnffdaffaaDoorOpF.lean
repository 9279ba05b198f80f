/- awake of the laws of layer 4. -/
import Derived.Test.YtmggdnnffdaffaaDoorOpE
namespace Go.Proofs.YtmggdnnffdaffaaDoor
open Go.RowKit
attribute [local go_sem ↓] Go.wp_at_zero Go.wp_at_succ

def askO : Dc := ⟨false, [1], [5, 0]⟩
def askT : Dc := ⟨false, [1], [5]⟩
theorem askO_ok : askO.Ok := ⟨fun d hd => by simp [askO] at hd; omega, fun d hd => by simp [askO] at hd; omega, by decide, by decide, .inl rfl, fun e => by cases e⟩
theorem askO_trim : trimD askO = askT := rfl
theorem askO_f : intg askO.f = [5, 0] := intg_lead askO_ok.df
theorem askT_f : intg askT.f = [5] := intg_lead (fun d hd => by simp [askT] at hd; omega)

end Go.Proofs.YtmggdnnffdaffaaDoor
