/-
  Layer 5: what slices.SortFunc does, by the library's own contract.
-/
import Derived.Test.YtcjefhjhmmoocaaProg
import Derived.Shelf.SlSortCmp.NoneTotal
namespace Go.Proofs.Ytcjefhjhmmoocaa
open Go.Shelf

/-- The library's numbers, in this program. -/
def renS : Shelf.Ren where
  f := fun x => match x with
    | 6 => 52
    | 15 => 59
    | 14 => 58
    | 28 => 69
    | 29 => 70
    | 20 => 61
    | 21 => 62
    | 22 => 63
    | 23 => 64
    | 24 => 65
    | 25 => 66
    | 26 => 67
    | 27 => 68
    | 46 => 71
    | 47 => 72
    | 48 => 73
    | 49 => 74
    | 50 => 75
    | 57 => 76
    | n => n
  t := fun x => match x with
    | 22 => 62
    | 24 => 3
    | 25 => 46
    | 3 => 3
    | 39 => 81
    | 0 => 0
    | 53 => 92
    | 55 => 40
    | 4 => 4
    | 46 => 85
    | 45 => 84
    | 50 => 89
    | 5 => 5
    | 9 => 9
    | 66 => 94
    | 70 => 98
    | 76 => 100
    | 77 => 59
    | n => n
  g := fun n => n
theorem bears_of {P : Program} {f : FuncId} {F B : Func} (h : P.funcs[f]? = some F) (e : F = { B with name := F.name }) (hn : (F.name == "runtime.NumGoroutine") = false) : Bears P f B := ⟨F.name, hn, by rw [h, ← e]⟩
theorem sort_lays : SlLaysF.n6 Try.prog renS where
  mixed := by kernel_rfl
  f6 := bears_of Try.func52 (by kernel_rfl) (by kernel_rfl)
  f14 := bears_of Try.func58 (by kernel_rfl) (by kernel_rfl)
  f15 := by kernel_rfl
  f20 := bears_of Try.func61 (by kernel_rfl) (by kernel_rfl)
  f21 := bears_of Try.func62 (by kernel_rfl) (by kernel_rfl)
  f22 := bears_of Try.func63 (by kernel_rfl) (by kernel_rfl)
  f23 := bears_of Try.func64 (by kernel_rfl) (by kernel_rfl)
  f24 := bears_of Try.func65 (by kernel_rfl) (by kernel_rfl)
  f25 := bears_of Try.func66 (by kernel_rfl) (by kernel_rfl)
  f26 := bears_of Try.func67 (by kernel_rfl) (by kernel_rfl)
  f27 := bears_of Try.func68 (by kernel_rfl) (by kernel_rfl)
  f28 := by kernel_rfl
  f29 := by kernel_rfl
  f46 := bears_of Try.func71 (by kernel_rfl) (by kernel_rfl)
  f47 := by kernel_rfl
  f48 := by kernel_rfl
  f49 := bears_of Try.func74 (by kernel_rfl) (by kernel_rfl)
  f50 := bears_of Try.func75 (by kernel_rfl) (by kernel_rfl)
  f57 := bears_of Try.func76 (by kernel_rfl) (by kernel_rfl)
  t0 := by kernel_rfl
  a0 := fun _ => by kernel_rfl
  z0 := fun _ => by kernel_rfl
  v0 := fun _ => by kernel_rfl
  t3 := by kernel_rfl
  a3 := fun _ => by kernel_rfl
  z3 := fun _ => by kernel_rfl
  v3 := fun _ => by kernel_rfl
  t4 := by kernel_rfl
  a4 := fun _ => by kernel_rfl
  z4 := fun _ => by kernel_rfl
  v4 := fun _ => by kernel_rfl
  t5 := by kernel_rfl
  a5 := fun _ => by kernel_rfl
  z5 := fun _ => by kernel_rfl
  v5 := fun _ => by kernel_rfl
  t9 := by kernel_rfl
  a9 := fun _ => by kernel_rfl
  z9 := fun _ => by kernel_rfl
  v9 := fun _ => by kernel_rfl
  t22 := by kernel_rfl
  a22 := fun _ => by kernel_rfl
  z22 := fun _ => by kernel_rfl
  v22 := fun _ => by kernel_rfl
  a24 := fun _ => by kernel_rfl
  z24 := fun _ => by kernel_rfl
  t25 := by kernel_rfl
  a25 := fun _ => by kernel_rfl
  z25 := fun _ => by kernel_rfl
  v25 := fun _ => by kernel_rfl
  t39 := by kernel_rfl
  a39 := fun _ => by kernel_rfl
  z39 := fun _ => by kernel_rfl
  v39 := fun _ => by kernel_rfl
  t45 := by kernel_rfl
  a45 := fun _ => by kernel_rfl
  z45 := fun _ => by kernel_rfl
  v45 := fun _ => by kernel_rfl
  t46 := by kernel_rfl
  a46 := fun _ => by kernel_rfl
  z46 := fun _ => by kernel_rfl
  v46 := fun _ => by kernel_rfl
  t50 := by kernel_rfl
  a50 := fun _ => by kernel_rfl
  z50 := fun _ => by kernel_rfl
  v50 := fun _ => by kernel_rfl
  t53 := by kernel_rfl
  a53 := fun _ => by kernel_rfl
  z53 := fun _ => by kernel_rfl
  v53 := fun _ => by kernel_rfl
  t55 := by kernel_rfl
  a55 := fun _ => by kernel_rfl
  z55 := fun _ => by kernel_rfl
  v55 := fun _ => by kernel_rfl
  t66 := by kernel_rfl
  a66 := fun _ => by kernel_rfl
  z66 := fun _ => by kernel_rfl
  v66 := fun _ => by kernel_rfl
  t70 := by kernel_rfl
  a70 := fun _ => by kernel_rfl
  z70 := fun _ => by kernel_rfl
  v70 := fun _ => by kernel_rfl
  t76 := by kernel_rfl
  a76 := fun _ => by kernel_rfl
  z76 := fun _ => by kernel_rfl
  v76 := fun _ => by kernel_rfl
  t77 := by kernel_rfl
  a77 := fun _ => by kernel_rfl
  z77 := fun _ => by kernel_rfl
  v77 := fun _ => by kernel_rfl
end Go.Proofs.Ytcjefhjhmmoocaa
