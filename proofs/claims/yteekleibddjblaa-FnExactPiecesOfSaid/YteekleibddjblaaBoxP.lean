/- Boxes: what they are stands in IntRows. -/
import Derived.Test.YteekleibddjblaaIntRows
namespace Go.Proofs.Yteekleibddjblaa
end Go.Proofs.Yteekleibddjblaa
