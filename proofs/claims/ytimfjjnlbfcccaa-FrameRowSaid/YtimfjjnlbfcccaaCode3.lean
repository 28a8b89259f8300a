/- Reading one record: annalref.Unbytes. -/
import Derived.Test.YtimfjjnlbfcccaaCode2
namespace Go.Proofs.Ytimfjjnlbfcccaa
open Go.RowKit

end Go.Proofs.Ytimfjjnlbfcccaa
