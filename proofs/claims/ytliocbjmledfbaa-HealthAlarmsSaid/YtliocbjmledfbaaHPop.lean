/- How many bits: plain mathematics over the model's own operations on bits. -/
import Derived.Test.YtliocbjmledfbaaHTrend
import Derived.Laws.Bits64b
namespace Go.Proofs.Ytliocbjmledfbaa
open Go.RowKit

def on1 (x : Int) : Int := IntKind.u64.wrap (bits .and .u64 (x / 2) 6148914691236517205 + bits .and .u64 x 6148914691236517205)
def on2 (x : Int) : Int := IntKind.u64.wrap (bits .and .u64 (x / 4) 3689348814741910323 + bits .and .u64 x 3689348814741910323)
def on3 (x : Int) : Int := bits .and .u64 (IntKind.u64.wrap (x / 16 + x)) 1085102592571150095
def on4 (x : Int) : Int := IntKind.u64.wrap (x + x / 256)
def on5 (x : Int) : Int := IntKind.u64.wrap (x + x / 65536)
def on6 (x : Int) : Int := IntKind.u64.wrap (x + x / 4294967296)
def on7 (x : Int) : Int := bits .and .i64 (wrap64 x) 127
/-- How many numbers a set has. -/
def pc (s : Nat) : Nat := ((List.range 12).filter fun i => s.testBit i).length
theorem on_all' : ∀ i, i < 64 → ∀ j, j < 64 → on7 (on6 (on5 (on4 (on3 (on2 (on1 ((i * 64 + j : Nat) : Int))))))) = (pc (i * 64 + j) : Int) := by decide +kernel
theorem on_all (x : Nat) (h : x < 4096) : on7 (on6 (on5 (on4 (on3 (on2 (on1 (x : Int))))))) = (pc x : Int) := by
  have := on_all' (x / 64) (by omega) (x % 64) (by omega)
  rwa [show x / 64 * 64 + x % 64 = x by omega] at this
end Go.Proofs.Ytliocbjmledfbaa
