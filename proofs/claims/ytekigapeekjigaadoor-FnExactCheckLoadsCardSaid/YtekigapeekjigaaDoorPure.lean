/-
  Plain words on garments and rules; no program in them.
-/
import Derived.Test.YtekigapeekjigaaDoorRows
import Derived.WalkKit
import Derived.Test.YtekigapeekjigaaDoorWords
namespace Go.Proofs.YtekigapeekjigaaDoor
open Go.RowKit

/-- a garment's numbers -/
structure Gar where
  c : Int
  n : Int
  m : Int
  g : Int

/-- the numbers are in the range of their kinds -/
structure Gar.Fits (x : Gar) : Prop where
  c0 : 0 ≤ x.c
  c1 : x.c ≤ 255
  n0 : -128 ≤ x.n
  n1 : x.n ≤ 127
  m0 : -128 ≤ x.m
  m1 : x.m ≤ 127
  g0 : -32768 ≤ x.g
  g1 : x.g ≤ 32767

/-- is a garment valid -/
def Gar.valid (x : Gar) : Bool := decide (x.c < 6) && (decide (0 ≤ x.n) && (decide (x.n ≤ x.m) && (decide (x.m ≤ 95) && (decide (1 ≤ x.g) && decide (x.g ≤ 2000)))))

abbrev Gar.cells (x : Gar) : List Value := [.int .u8 x.c, .int .i8 x.n, .int .i8 x.m, .int .i16 x.g]
abbrev Gar.v (x : Gar) : Value := .agg #[.int .u8 x.c, .int .i8 x.n, .int .i8 x.m, .int .i16 x.g]

end Go.Proofs.YtekigapeekjigaaDoor
