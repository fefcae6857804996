/- CONTRACTS OF impl.rolled[int64], impl.mixed, impl.MixOf: MixOf answers 'mixOf', at every key and every list; the world stays. -/
import Derived.Test.YtagjgdgkkblidaaMixB
namespace Go.Proofs.Ytagjgdgkkblidaa.Mx
open Go.ChangeShapes Go.WideShapes Go.ChangeAt Go.RowKit
set_option linter.unusedVariables false

end Go.Proofs.Ytagjgdgkkblidaa.Mx
