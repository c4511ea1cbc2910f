import Derived.Test.YtgimcephbeajlaaGreatC20
set_option linter.unusedSimpArgs false
set_option linter.unusedVariables false
namespace Go.Proofs.YtgimcephbeajlaaGreat
open Go.RowKit Go.Shelf




end Go.Proofs.YtgimcephbeajlaaGreat
