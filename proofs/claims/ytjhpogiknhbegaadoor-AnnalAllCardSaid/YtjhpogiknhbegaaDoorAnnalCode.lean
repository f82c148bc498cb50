/- The landed annal: all that its calls answer and do. -/
import Derived.Test.YtjhpogiknhbegaaDoorAnnalNew
import Derived.Test.YtjhpogiknhbegaaDoorAnnalLast
import Derived.Test.YtjhpogiknhbegaaDoorAnnalAdd
set_option linter.unusedSimpArgs false
set_option linter.unusedVariables false
namespace Go.Proofs.YtjhpogiknhbegaaDoor.Annal
open Go.RowKit
open Alarm (Ot otS noOt ot_cells)
theorem kit : AnnalKit Ann where
  lt := ann_lt
  kept := ann_kept
  new_any := new_k
  add_any := adds_k
  len_any := len_k
  at_any := at_k
  last_any := last_k
  dropped_any := dropped_k
  count_any := fun w b S all k h => count_k w b S all k h
  clone_any := clone_k
end Go.Proofs.YtjhpogiknhbegaaDoor.Annal
