import Derived.Test.YtdnbpbngoiahlaaGreatDoorLexUp
namespace Go.Proofs.YtdnbpbngoiahlaaGreatDoor
def setA : BitVec 256 := ~~~(ofBytes [98, 99, 100, 65])
def toksA : List Tok := [⟨0, addB 0#256 97, 0, 0, 0, 0, ByteArray.empty⟩, ⟨16, 0#256, 1, -1, 1, 0, ByteArray.empty⟩, ⟨14, 0#256, 0, 0, 0, 0, ⟨#[105]⟩⟩, ⟨0, setA, 0, 0, 0, 0, ByteArray.empty⟩, tok0 6, ⟨17, 0#256, 0, 0, 0, 2, ByteArray.empty⟩, tok0 15, ⟨16, 0#256, 2, 3, 2, 0, ByteArray.empty⟩]
end Go.Proofs.YtdnbpbngoiahlaaGreatDoor
