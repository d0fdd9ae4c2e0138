/- DERIVED. The law of code stands. -/
import Derived.Test.YtkmnpechhdendaaDoorYh
namespace Go.Proofs.YtkmnpechhdendaaDoor

theorem code_law : CodeLaw := fun h hk hL hok => code_any h hk hL hok

end Go.Proofs.YtkmnpechhdendaaDoor
