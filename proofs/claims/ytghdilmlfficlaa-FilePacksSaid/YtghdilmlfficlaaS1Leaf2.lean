/- The contracts of the check that a check becomes: folding, the complement, Mend, and the reference's own. -/
import Derived.Test.YtghdilmlfficlaaS1Leaf
import Derived.Test.YtghdilmlfficlaaS1Math
namespace Go.Proofs.Ytghdilmlfficlaa.S1
open Go.RowKit

/-- What Mend gives. -/
def mendV (s a n : Int) : Int := 65535 - (foldN ((65535 - s % 65536) + (65535 - a % 65536) + n % 65536).toNat : Nat)

end Go.Proofs.Ytghdilmlfficlaa.S1
