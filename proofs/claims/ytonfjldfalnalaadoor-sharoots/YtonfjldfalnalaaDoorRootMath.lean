/-
  The document's roots of primes, over plain numbers; that they are the table's.
-/
import Derived.Test.YtonfjldfalnalaaDoorShaMath
namespace Go.Proofs.YtonfjldfalnalaaDoor

/-- One part's step of times: what stands, and what is carried. -/
def istep (a : List Nat) (d k i : Nat) (s : List Nat × Nat) : List Nat × Nat :=
  (s.1.set (i + k) ((s.1.getD (i + k) 0 + a.getD i 0 * d + s.2) % 18446744073709551616 % 65536), (s.1.getD (i + k) 0 + a.getD i 0 * d + s.2) % 18446744073709551616 / 65536)
/-- Behind i parts. -/
def inn (a : List Nat) (d k : Nat) (out : List Nat) : Nat → List Nat × Nat
  | 0 => (out, 0)
  | i + 1 => istep a d k i (inn a d k out i)
/-- The carry laid in. -/
def lay (n k : Nat) (s : List Nat × Nat) : List Nat := s.1.set (n + k) ((s.1.getD (n + k) 0 + s.2) % 18446744073709551616)
/-- Behind k parts of the other number. -/
def trow (a : List Nat) (y : Nat) : Nat → List Nat
  | 0 => List.replicate (a.length + 4) 0
  | k + 1 => lay a.length k (inn a (y / 2 ^ (16 * k) % 65536) k (trow a y k) a.length)
def timesL (a : List Nat) (y : Nat) : List Nat := trow a y 3
/-- The highest parts, as long as they are few. -/
def hiL (a : List Nat) : Nat → Option Nat
  | 0 => some 0
  | j + 1 => match hiL a j with
    | none => none
    | some h => if 1048576 < h then none else some ((h * 65536 % 18446744073709551616) ||| a.getD (a.length - 1 - j) 0)
def restL (a : List Nat) : Nat → Nat
  | 0 => 0
  | i + 1 => restL a i ||| a.getD i 0
def partsL (y : Nat) : List Nat := [y % 65536, y / 65536 % 65536, y / 4294967296 % 65536]
def tellL (a : List Nat) (top p : Nat) : Bool := match hiL a (a.length - top) with
  | none => false
  | some h => decide (h < p) || (decide (h = p) && decide (restL a top = 0))
def fitsL (y p : Nat) (cube : Bool) : Bool :=
  if cube then tellL (timesL (timesL (partsL y) y) y) 6 p else tellL (timesL (partsL y) y) 4 p
def rootL (p : Nat) (cube : Bool) : Nat → Nat
  | 0 => 0
  | k + 1 => if fitsL (rootL p cube k ||| 2 ^ (39 - k)) p cube then rootL p cube k ||| 2 ^ (39 - k) else rootL p cube k
def prs : Nat → List Nat
  | 0 => []
  | m + 1 => if (prs m).all (fun q => decide ((m + 2) % q ≠ 0)) then prs m ++ [m + 2] else prs m

theorem inn_len (a : List Nat) (d k : Nat) (out : List Nat) : ∀ i, (inn a d k out i).1.length = out.length
  | 0 => rfl
  | i + 1 => by simp [inn, istep, inn_len a d k out i]
theorem trow_len (a : List Nat) (y : Nat) : ∀ k, (trow a y k).length = a.length + 4
  | 0 => by simp [trow]
  | k + 1 => by simp [trow, lay, inn_len, trow_len a y k]
theorem set_small {l : List Nat} {M : Nat} (h : ∀ x ∈ l, x < M) (i v : Nat) (hv : v < M) : ∀ x ∈ l.set i v, x < M := by
  intro x hx
  rcases List.mem_or_eq_of_mem_set hx with h1 | rfl
  · exact h x h1
  · exact hv
theorem inn_small (a : List Nat) (d k : Nat) (out : List Nat) (h : ∀ x ∈ out, x < 18446744073709551616) : ∀ i, (∀ x ∈ (inn a d k out i).1, x < 18446744073709551616) ∧ (inn a d k out i).2 < 18446744073709551616
  | 0 => ⟨h, by simp [inn]⟩
  | i + 1 => ⟨set_small (inn_small a d k out h i).1 _ _ (by omega), by simp only [inn, istep]; omega⟩
theorem trow_small (a : List Nat) (y : Nat) : ∀ k, ∀ x ∈ trow a y k, x < 18446744073709551616
  | 0 => by intro x hx; have := List.eq_of_mem_replicate hx; omega
  | k + 1 => set_small (inn_small _ _ _ _ (trow_small a y k) _).1 _ _ (by omega)
theorem timesL_len (a : List Nat) (y : Nat) : (timesL a y).length = a.length + 4 := trow_len a y 3
theorem hiL_none (a : List Nat) (j : Nat) (h : hiL a j = none) : ∀ n, hiL a (j + n) = none
  | 0 => h
  | n + 1 => by rw [← Nat.add_assoc]; simp only [hiL, hiL_none a j h n]
theorem rootL_lt (p : Nat) (c : Bool) : ∀ k, rootL p c k < 1099511627776
  | 0 => by simp [rootL]
  | k + 1 => by
    simp only [rootL]
    split
    · exact Nat.or_lt_two_pow (n := 40) (rootL_lt p c k) (Nat.pow_lt_pow_right (by omega) (by omega))
    · exact rootL_lt p c k
theorem prs_more (m : Nat) : ∀ n, ∃ r, prs (m + n) = prs m ++ r
  | 0 => ⟨[], by simp⟩
  | n + 1 => by
    obtain ⟨r, hr⟩ := prs_more m n
    rw [← Nat.add_assoc]
    simp only [prs]
    split
    · exact ⟨r ++ [m + n + 2], by rw [hr, List.append_assoc]⟩
    · exact ⟨r, hr⟩
theorem prs_pos (m : Nat) : ∀ q ∈ prs m, 2 ≤ q ∧ q < m + 2 := by
  induction m with
  | zero => simp [prs]
  | succ m ih =>
    intro q hq
    simp only [prs] at hq
    split at hq
    · rcases List.mem_append.1 hq with h | h
      · have := ih q h; omega
      · have := List.mem_singleton.1 h; omega
    · have := ih q hq; omega
theorem prs_310 : prs 310 = [2, 3, 5, 7, 11, 13, 17, 19, 23, 29, 31, 37, 41, 43, 47, 53, 59, 61, 67, 71, 73, 79, 83, 89, 97, 101, 103, 107, 109, 113, 127, 131, 137, 139, 149, 151, 157, 163, 167, 173, 179, 181, 191, 193, 197, 199, 211, 223, 227, 229, 233, 239, 241, 251, 257, 263, 269, 271, 277, 281, 283, 293, 307, 311] := by decide +kernel
theorem prs_18 : prs 18 = [2, 3, 5, 7, 11, 13, 17, 19] := by decide +kernel
theorem rs_0 : rootL 2 false 40 % 4294967296 = 1779033703 := by decide +kernel
theorem rs_1 : rootL 3 false 40 % 4294967296 = 3144134277 := by decide +kernel
theorem rs_2 : rootL 5 false 40 % 4294967296 = 1013904242 := by decide +kernel
theorem rs_3 : rootL 7 false 40 % 4294967296 = 2773480762 := by decide +kernel
theorem rs_4 : rootL 11 false 40 % 4294967296 = 1359893119 := by decide +kernel
theorem rs_5 : rootL 13 false 40 % 4294967296 = 2600822924 := by decide +kernel
theorem rs_6 : rootL 17 false 40 % 4294967296 = 528734635 := by decide +kernel
theorem rs_7 : rootL 19 false 40 % 4294967296 = 1541459225 := by decide +kernel
theorem rk_0 : rootL 2 true 40 % 4294967296 = 1116352408 := by decide +kernel
theorem rk_1 : rootL 3 true 40 % 4294967296 = 1899447441 := by decide +kernel
theorem rk_2 : rootL 5 true 40 % 4294967296 = 3049323471 := by decide +kernel
theorem rk_3 : rootL 7 true 40 % 4294967296 = 3921009573 := by decide +kernel
theorem rk_4 : rootL 11 true 40 % 4294967296 = 961987163 := by decide +kernel
theorem rk_5 : rootL 13 true 40 % 4294967296 = 1508970993 := by decide +kernel
theorem rk_6 : rootL 17 true 40 % 4294967296 = 2453635748 := by decide +kernel
theorem rk_7 : rootL 19 true 40 % 4294967296 = 2870763221 := by decide +kernel
theorem rk_8 : rootL 23 true 40 % 4294967296 = 3624381080 := by decide +kernel
theorem rk_9 : rootL 29 true 40 % 4294967296 = 310598401 := by decide +kernel
theorem rk_10 : rootL 31 true 40 % 4294967296 = 607225278 := by decide +kernel
theorem rk_11 : rootL 37 true 40 % 4294967296 = 1426881987 := by decide +kernel
theorem rk_12 : rootL 41 true 40 % 4294967296 = 1925078388 := by decide +kernel
theorem rk_13 : rootL 43 true 40 % 4294967296 = 2162078206 := by decide +kernel
theorem rk_14 : rootL 47 true 40 % 4294967296 = 2614888103 := by decide +kernel
theorem rk_15 : rootL 53 true 40 % 4294967296 = 3248222580 := by decide +kernel
theorem rk_16 : rootL 59 true 40 % 4294967296 = 3835390401 := by decide +kernel
theorem rk_17 : rootL 61 true 40 % 4294967296 = 4022224774 := by decide +kernel
theorem rk_18 : rootL 67 true 40 % 4294967296 = 264347078 := by decide +kernel
theorem rk_19 : rootL 71 true 40 % 4294967296 = 604807628 := by decide +kernel
theorem rk_20 : rootL 73 true 40 % 4294967296 = 770255983 := by decide +kernel
theorem rk_21 : rootL 79 true 40 % 4294967296 = 1249150122 := by decide +kernel
theorem rk_22 : rootL 83 true 40 % 4294967296 = 1555081692 := by decide +kernel
theorem rk_23 : rootL 89 true 40 % 4294967296 = 1996064986 := by decide +kernel
theorem rk_24 : rootL 97 true 40 % 4294967296 = 2554220882 := by decide +kernel
theorem rk_25 : rootL 101 true 40 % 4294967296 = 2821834349 := by decide +kernel
theorem rk_26 : rootL 103 true 40 % 4294967296 = 2952996808 := by decide +kernel
theorem rk_27 : rootL 107 true 40 % 4294967296 = 3210313671 := by decide +kernel
theorem rk_28 : rootL 109 true 40 % 4294967296 = 3336571891 := by decide +kernel
theorem rk_29 : rootL 113 true 40 % 4294967296 = 3584528711 := by decide +kernel
theorem rk_30 : rootL 127 true 40 % 4294967296 = 113926993 := by decide +kernel
theorem rk_31 : rootL 131 true 40 % 4294967296 = 338241895 := by decide +kernel
theorem rk_32 : rootL 137 true 40 % 4294967296 = 666307205 := by decide +kernel
theorem rk_33 : rootL 139 true 40 % 4294967296 = 773529912 := by decide +kernel
theorem rk_34 : rootL 149 true 40 % 4294967296 = 1294757372 := by decide +kernel
theorem rk_35 : rootL 151 true 40 % 4294967296 = 1396182291 := by decide +kernel
theorem rk_36 : rootL 157 true 40 % 4294967296 = 1695183700 := by decide +kernel
theorem rk_37 : rootL 163 true 40 % 4294967296 = 1986661051 := by decide +kernel
theorem rk_38 : rootL 167 true 40 % 4294967296 = 2177026350 := by decide +kernel
theorem rk_39 : rootL 173 true 40 % 4294967296 = 2456956037 := by decide +kernel
theorem rk_40 : rootL 179 true 40 % 4294967296 = 2730485921 := by decide +kernel
theorem rk_41 : rootL 181 true 40 % 4294967296 = 2820302411 := by decide +kernel
theorem rk_42 : rootL 191 true 40 % 4294967296 = 3259730800 := by decide +kernel
theorem rk_43 : rootL 193 true 40 % 4294967296 = 3345764771 := by decide +kernel
theorem rk_44 : rootL 197 true 40 % 4294967296 = 3516065817 := by decide +kernel
theorem rk_45 : rootL 199 true 40 % 4294967296 = 3600352804 := by decide +kernel
theorem rk_46 : rootL 211 true 40 % 4294967296 = 4094571909 := by decide +kernel
theorem rk_47 : rootL 223 true 40 % 4294967296 = 275423344 := by decide +kernel
theorem rk_48 : rootL 227 true 40 % 4294967296 = 430227734 := by decide +kernel
theorem rk_49 : rootL 229 true 40 % 4294967296 = 506948616 := by decide +kernel
theorem rk_50 : rootL 233 true 40 % 4294967296 = 659060556 := by decide +kernel
theorem rk_51 : rootL 239 true 40 % 4294967296 = 883997877 := by decide +kernel
theorem rk_52 : rootL 241 true 40 % 4294967296 = 958139571 := by decide +kernel
theorem rk_53 : rootL 251 true 40 % 4294967296 = 1322822218 := by decide +kernel
theorem rk_54 : rootL 257 true 40 % 4294967296 = 1537002063 := by decide +kernel
theorem rk_55 : rootL 263 true 40 % 4294967296 = 1747873779 := by decide +kernel
theorem rk_56 : rootL 269 true 40 % 4294967296 = 1955562222 := by decide +kernel
theorem rk_57 : rootL 271 true 40 % 4294967296 = 2024104815 := by decide +kernel
theorem rk_58 : rootL 277 true 40 % 4294967296 = 2227730452 := by decide +kernel
theorem rk_59 : rootL 281 true 40 % 4294967296 = 2361852424 := by decide +kernel
theorem rk_60 : rootL 283 true 40 % 4294967296 = 2428436474 := by decide +kernel
theorem rk_61 : rootL 293 true 40 % 4294967296 = 2756734187 := by decide +kernel
theorem rk_62 : rootL 307 true 40 % 4294967296 = 3204031479 := by decide +kernel
theorem rk_63 : rootL 311 true 40 % 4294967296 = 3329325298 := by decide +kernel
theorem starts : (prs 18).map (fun p => rootL p false 40 % 4294967296) = start.list := by
  rw [prs_18]
  simp only [List.map_cons, List.map_nil, rs_0, rs_1, rs_2, rs_3, rs_4, rs_5, rs_6, rs_7]
  rfl
theorem rounds64 : (prs 310).map (fun p => rootL p true 40 % 4294967296) = kTab := by
  rw [prs_310]
  simp only [List.map_cons, List.map_nil, rk_0, rk_1, rk_2, rk_3, rk_4, rk_5, rk_6, rk_7, rk_8, rk_9, rk_10, rk_11, rk_12, rk_13, rk_14, rk_15, rk_16, rk_17, rk_18, rk_19, rk_20, rk_21, rk_22, rk_23, rk_24, rk_25, rk_26, rk_27, rk_28, rk_29, rk_30, rk_31, rk_32, rk_33, rk_34, rk_35, rk_36, rk_37, rk_38, rk_39, rk_40, rk_41, rk_42, rk_43, rk_44, rk_45, rk_46, rk_47, rk_48, rk_49, rk_50, rk_51, rk_52, rk_53, rk_54, rk_55, rk_56, rk_57, rk_58, rk_59, rk_60, rk_61, rk_62, rk_63]
  rfl
end Go.Proofs.YtonfjldfalnalaaDoor
