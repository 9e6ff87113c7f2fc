/- What Itoa asks of the world; no statement is proved in this text. -/
import Derived.Test.YtihbbgcpdgnhoaaDoorTx
namespace Go.Proofs.YtihbbgcpdgnhoaaDoor
abbrev Env (w : World) : Prop := Pw w
end Go.Proofs.YtihbbgcpdgnhoaaDoor
