/-
  What package crc must say, as propositions.
-/
import Derived.Test.YtgnllmcgebonpaaCrcRef
namespace Go.Proofs.Ytgnllmcgebonpaa
open Go.ChangeShapes Go.WideShapes Go.ChangeAt Go.RowKit

/-- The bytes of a call's own that it answers. -/
def Gives (w w' : World) (e : Ending) (p : List UInt8 → Prop) : Prop := ∃ d cd r, Hid (p r) ∧ e = .returned (.slice d r.length cd) ∧ Sees w' d cd r ∧ Below w.heap.size w w' ∧ w'.ownsRow w.heap.size 5 1 (.slice d r.length cd) r.length (r.map cellOf)
def CwholeOk : Prop := ∀ (w : World) (a : Option Addr) (ca : Nat) (l : List UInt8), Sees w a ca l → l.length ≤ 140737488355000 → Calls Try.prog 63 #[.slice a l.length ca] w fun e w' => e = .returned (.int .u32 ((wholeL l : Nat) : Int)) ∧ Below w.heap.size w w'
def CfixOk : Prop := ∀ (w : World) (a : Option Addr) (ca : Nat) (l : List UInt8), Sees w a ca l → l.length ≤ 140737488355000 → Calls Try.prog 52 #[.slice a l.length ca] w fun e w' => Gives w w' e (fun r => r = fixL l)
def CgoodOk : Prop := ∀ (w : World) (a : Option Addr) (ca : Nat) (l : List UInt8), Sees w a ca l → l.length ≤ 140737488355000 → Calls Try.prog 60 #[.slice a l.length ca] w fun e w' => e = .returned (.bool (goodL l)) ∧ Below w.heap.size w w'
end Go.Proofs.Ytgnllmcgebonpaa
