/-
  What package crc must say, as propositions; the statements' walks out of them.
-/
import Derived.Test.YtoggjpkbbncbbaaCrcBurst
namespace Go.Proofs.Ytoggjpkbbncbbaa
open Go.ChangeShapes Go.WideShapes Go.ChangeAt Go.RowKit

def CofOk : Prop := ∀ (w : World) (a : Option Addr) (ca : Nat) (l : List UInt8) (W : Int) (P s0 : Nat), Sees w a ca l → l.length ≤ 140737488355000 → P < 4294967296 → s0 < 4294967296 →
  Calls Try.prog 8 #[.slice a l.length ca, .int .i64 W, .int .u32 (P : Int), .int .u32 (s0 : Int)] w fun e w' => e = .returned (.tuple #[.int .u32 (((crcP l W P s0).1 : Nat) : Int), .int .i64 (((crcP l W P s0).2 : Nat) : Int)]) ∧ Below w.heap.size w w'
def CheadOk : Prop := ∀ (w : World) (a : Option Addr) (ca : Nat) (l : List UInt8), Sees w a ca l → l.length ≤ 140737488355000 → Calls Try.prog 10 #[.slice a l.length ca] w fun e w' => e = .returned (.int .u32 ((headL l : Nat) : Int)) ∧ Below w.heap.size w w'
def CwholeOk : Prop := ∀ (w : World) (a : Option Addr) (ca : Nat) (l : List UInt8), Sees w a ca l → l.length ≤ 140737488355000 → Calls Try.prog 44 #[.slice a l.length ca] w fun e w' => e = .returned (.int .u32 ((wholeL l : Nat) : Int)) ∧ Below w.heap.size w w'
def CfixOk : Prop := ∀ (w : World) (a : Option Addr) (ca : Nat) (l : List UInt8), Sees w a ca l → l.length ≤ 140737488355000 → Calls Try.prog 23 #[.slice a l.length ca] w fun e w' => Gives w w' e (fun r => r = fixL l)
def CgoodOk : Prop := ∀ (w : World) (a : Option Addr) (ca : Nat) (l : List UInt8), Sees w a ca l → l.length ≤ 140737488355000 → Calls Try.prog 32 #[.slice a l.length ca] w fun e w' => e = .returned (.bool (goodL l)) ∧ Below w.heap.size w w'
def CburstOk : Prop := ∀ (w : World) (n k : Int) (B : Nat), B < 4294967296 → Calls Try.prog 19 #[.int .i64 n, .int .i64 k, .int .u32 (B : Int)] w fun e w' => Gives w w' e (burstIs n k B)
def CawakeOk : Prop := ∀ w : World, Calls Try.prog 14 #[] w fun e w' => e = .returned (.bool true) ∧ Below w.heap.size w w'

end Go.Proofs.Ytoggjpkbbncbbaa
