import Derived.Test.YtjkepphpahfdgaaDoorField
namespace Go.Proofs.YtjkepphpahfdgaaDoor
open Go.RowKit

/-- A request, as numbers. -/
structure Rq where
  op : Int
  k0 : Int
  k1 : Int
  k2 : Int
  k3 : Int
  k4 : Int
  k5 : Int
  k6 : Int
  k7 : Int
  kd : Int
  x : Int
  y : Int
  n : Int
def Rq.zero : Rq := ⟨0, 0, 0, 0, 0, 0, 0, 0, 0, 0, 0, 0, 0⟩

/-- What is wrong with bytes (P4): 0: nothing; 1: they end too early; 2: they are no frame. -/
def rdErr (bs : List Int) : Int :=
  match bs with
  | [] => 1
  | b0 :: t => if b0 < 1 ∨ 26 < b0 then 2 else
    match t with
    | [] => 1
    | b1 :: _ => if b0 = reqLen b1 then (if (bs.length : Int) ≤ b0 then 1 else 0) else 2
def rdN (bs : List Int) : Int := if rdErr bs = 0 then bs.getD 0 0 + 1 else 0
def num8 (bs : List Int) (o : Nat) : Int := rdTo (fun j => bs.getD (o + j) 0) 8
def rdQ (bs : List Int) : Rq :=
  if rdErr bs = 0 then
    if bs.getD 1 0 = 1 then ⟨1, bs.getD 2 0, bs.getD 3 0, bs.getD 4 0, bs.getD 5 0, bs.getD 6 0, bs.getD 7 0, bs.getD 8 0, bs.getD 9 0, bs.getD 10 0, num8 bs 11, num8 bs 19, 0⟩
    else if bs.getD 1 0 = 2 then ⟨2, bs.getD 2 0, bs.getD 3 0, bs.getD 4 0, bs.getD 5 0, bs.getD 6 0, bs.getD 7 0, bs.getD 8 0, bs.getD 9 0, 0, 0, 0, num8 bs 10⟩
    else if bs.getD 1 0 = 3 ∨ bs.getD 1 0 = 4 then ⟨bs.getD 1 0, bs.getD 2 0, bs.getD 3 0, bs.getD 4 0, bs.getD 5 0, bs.getD 6 0, bs.getD 7 0, bs.getD 8 0, bs.getD 9 0, 0, 0, 0, 0⟩
    else ⟨bs.getD 1 0, 0, 0, 0, 0, 0, 0, 0, 0, 0, 0, 0, 0⟩
  else Rq.zero

/-- A reply, as numbers. -/
structure Rp where
  c : Int
  a : Int
  b : Int
end Go.Proofs.YtjkepphpahfdgaaDoor
