/- Package pool's four calls answer as the chapter says. Conditions: the rows' sizes. -/
import Derived.Test.YtamhjnjabjfgeaaPap3
import Derived.Test.YtamhjnjabjfgeaaPap5
import Derived.Test.YtamhjnjabjfgeaaPap6
namespace Go.Proofs.Ytamhjnjabjfgeaa
open Go Go.RowKit

theorem poolsOk : PoolsOk := ⟨fun h x t => please h x t, fun h hn k x => ptake h hn k x, fun h hn k x => pfree h hn k x, fun m w => pnew m w⟩
end Go.Proofs.Ytamhjnjabjfgeaa
