/- The Ex's row of the table. -/
import Derived.Test.YtbpcomnneemolaaGS2
import Derived.Test.YtbpcomnneemolaaBase
namespace Go.Proofs.Ytbpcomnneemolaa
open Go.RowKit Gs
theorem infoEx : (Try.prog.info? 44).map (fun i => (i.zero, i.size, i.bytes)) = some (some (.agg #[.int .i64 0, .int .i64 0, .int .i64 0, .bool false, .string ByteArray.empty, .slice none 0 0]), 6, 72) := by kernel_rfl
end Go.Proofs.Ytbpcomnneemolaa
