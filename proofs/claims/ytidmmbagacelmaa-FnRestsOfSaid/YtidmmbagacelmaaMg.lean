import Derived.Test.YtidmmbagacelmaaMf
namespace Go.Proofs.Ytidmmbagacelmaa
open Go Go.RowKit

/-- How many numbers of the square -7 .. 7 are their own rests, reckoned on natural numbers: each part is told with 10 more. -/
def ownN (N x y u v : Nat) : Bool :=
  -- 2 * ((x - 10) (u - 10) + (y - 10) (v - 10)) and 2 * ((y - 10) (u - 10) - (x - 10) (v - 10)), both with 1000 more
  let p := 2 * (x * u + y * v + 200) + 1000
  let q := 20 * (x + u + y + v)
  let r := 2 * (y * u + 10 * (x + v)) + 1000
  let s := 2 * (x * v + 10 * (y + u))
  Nat.ble (q + 1000) (p + N) && Nat.blt p (q + 1000 + N) && Nat.ble (s + 1000) (r + N) && Nat.blt r (s + 1000 + N)
def cntRow (u v : Nat) : Bool :=
  let N := u * u + v * v + 200 - 20 * (u + v)
  Nat.blt 100 N || Nat.beq N 0 || Nat.beq (((List.range 15).map fun x => ((List.range 15).filter fun y => ownN N (x + 3) (y + 3) u v).length).foldr (· + ·) 0) N
theorem cnt_table : (List.range 21).all (fun u => (List.range 21).all fun v => cntRow u v) = true := by kernel_rfl

end Go.Proofs.Ytidmmbagacelmaa
