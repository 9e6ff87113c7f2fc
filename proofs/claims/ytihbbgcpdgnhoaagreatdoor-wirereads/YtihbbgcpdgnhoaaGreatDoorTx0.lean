/- What Itoa asks of the world; no statement is proved in this text. -/
import Derived.Test.YtihbbgcpdgnhoaaGreatDoorTx
namespace Go.Proofs.YtihbbgcpdgnhoaaGreatDoor
abbrev Env (w : World) : Prop := Pw w
end Go.Proofs.YtihbbgcpdgnhoaaGreatDoor
