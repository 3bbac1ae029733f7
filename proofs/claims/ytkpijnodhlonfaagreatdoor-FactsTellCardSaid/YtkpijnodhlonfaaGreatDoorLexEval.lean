/-
  Layer 6, mathematics: the calls whose answers the document fixes.
-/
import Derived.Test.YtkpijnodhlonfaaGreatDoorLexUp
namespace Go.Proofs.YtkpijnodhlonfaaGreatDoor

theorem ev_b : lexZ ⟨#[97, 123, 49, 48, 49, 125]⟩ = ([], 4) := by kernel_rfl
theorem ev_c : lexZ ⟨#[97, 123, 51, 44, 50, 125]⟩ = ([], 3) := by kernel_rfl
theorem ev_d : lexZ ⟨#[40, 63, 105, 105, 58, 97, 41]⟩ = ([], 3) := by kernel_rfl
theorem ev_e : lexZ ⟨#[91, 93]⟩ = ([], 3) := by kernel_rfl
theorem ev_f : lexZ ⟨#[92, 113]⟩ = ([], 3) := by kernel_rfl
def patA : ByteArray := ⟨#[97, 43, 63, 40, 63, 105, 58, 91, 94, 98, 45, 100, 92, 120, 52, 49, 93, 124, 92, 50, 41, 123, 50, 44, 51, 125, 43]⟩
def setA : BitVec 256 := ~~~(ofBytes [98, 99, 100, 65])
def toksA : List Tok := [⟨0, addB 0#256 97, 0, 0, 0, 0, ByteArray.empty⟩, ⟨16, 0#256, 1, -1, 1, 0, ByteArray.empty⟩, ⟨14, 0#256, 0, 0, 0, 0, ⟨#[105]⟩⟩, ⟨0, setA, 0, 0, 0, 0, ByteArray.empty⟩, tok0 6, ⟨17, 0#256, 0, 0, 0, 2, ByteArray.empty⟩, tok0 15, ⟨16, 0#256, 2, 3, 2, 0, ByteArray.empty⟩]
theorem ev_a : lexZ patA = (toksA, 0) := by kernel_rfl
theorem ev_s : classZ ⟨#[120, 91, 97, 45, 99, 93, 121]⟩ 1 = (ofBytes [97, 98, 99], 6, 0) := by kernel_rfl
end Go.Proofs.YtkpijnodhlonfaaGreatDoor
