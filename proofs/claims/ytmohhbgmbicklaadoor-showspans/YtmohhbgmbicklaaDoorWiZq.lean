/- WiE, as one text. -/
import Derived.Test.YtmohhbgmbicklaaDoorNmZq
/- In the place of the reference's numbers, where a seat lacks them. -/
namespace Go.Proofs.YtmohhbgmbicklaaDoor

end Go.Proofs.YtmohhbgmbicklaaDoor
