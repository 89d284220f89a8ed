/-
  The tag over lists of bytes, and what follows of it. No program here.
-/
import Derived.Test.YtkpaldkmikjpiaaDoorShaMath
namespace Go.Proofs.YtkpaldkmikjpiaaDoor

/-- The key, or its digest if it has more than 64 bytes. -/
def keyL (key : List UInt8) : List UInt8 := if 64 < key.length then shaL key else key
/-- Filled up with noughts to 64. -/
def fillK (key : List UInt8) : List UInt8 := keyL key ++ List.replicate (64 - (keyL key).length) 0
def padK (key : List UInt8) (c : UInt8) : List UInt8 := (fillK key).map (· ^^^ c)
def inK (key : List UInt8) : List UInt8 := padK key 0x36
def outK (key : List UInt8) : List UInt8 := padK key 0x5C
def hmacL (key b : List UInt8) : List UInt8 := shaL (outK key ++ shaL (inK key ++ b))

theorem keyL_le (key : List UInt8) : (keyL key).length ≤ 64 := by
  unfold keyL; split
  · rw [shaL_length]; omega
  · omega
theorem fillK_length (key : List UInt8) : (fillK key).length = 64 := by
  have := keyL_le key
  simp [fillK]; omega
theorem padK_length (key : List UInt8) (c : UInt8) : (padK key c).length = 64 := by simp [padK, fillK_length]
theorem hmacL_length (key b : List UInt8) : (hmacL key b).length = 32 := shaL_length _

theorem padK_at (key : List UInt8) (c : UInt8) (i : Nat) (hi : i < 64) : (padK key c)[i]? = some (((keyL key)[i]?.getD 0) ^^^ c) := by
  unfold padK fillK
  rw [List.getElem?_map]
  by_cases h : i < (keyL key).length
  · rw [List.getElem?_append_left h]; simp [h]
  · rw [List.getElem?_append_right (by omega), List.getElem?_replicate, if_pos (by omega)]
    simp [show (keyL key).length ≤ i by omega]

theorem fillK_more (key : List UInt8) (n : Nat) (h : key.length + n ≤ 64) : fillK (key ++ List.replicate n 0) = fillK key := by
  unfold fillK keyL
  rw [if_neg (by simp; omega), if_neg (by omega)]
  rw [List.append_assoc, List.replicate_append_replicate]
  congr 2
  simp; omega
theorem hmacL_more (key b : List UInt8) (n : Nat) (h : key.length + n ≤ 64) : hmacL (key ++ List.replicate n 0) b = hmacL key b := by
  unfold hmacL outK inK padK; rw [fillK_more key n h]

def jefe : List UInt8 := [74, 101, 102, 101]
def what : List UInt8 := [119, 104, 97, 116, 32, 100, 111, 32, 121, 97, 32, 119, 97, 110, 116, 32, 102, 111, 114, 32, 110, 111, 116, 104, 105, 110, 103, 63]
theorem hmac_jefe : hmacL jefe what = [0x5b, 0xdc, 0xc1, 0x46, 0xbf, 0x60, 0x75, 0x4e, 0x6a, 0x04, 0x24, 0x26, 0x08, 0x95, 0x75, 0xc7, 0x5a, 0x00, 0x3f, 0x08, 0x9d, 0x27, 0x39, 0x83, 0x9d, 0xec, 0x58, 0xb9, 0x64, 0xec, 0x38, 0x43] := by decide +kernel
end Go.Proofs.YtkpaldkmikjpiaaDoor
