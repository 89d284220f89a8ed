/-
  Digits of base 16, as plain lists of bytes (no program here).
-/
import Derived.Test.YtmldfljgngkneaaDoorBase
namespace Go.Proofs.YtmldfljgngkneaaDoor

/-- The sixteen digits. -/
def hexd : List UInt8 := [48, 49, 50, 51, 52, 53, 54, 55, 56, 57, 97, 98, 99, 100, 101, 102]

def isD (c : UInt8) : Bool := hexd.contains c
/-- What a digit stands for. -/
def valD (c : UInt8) : UInt8 := UInt8.ofNat (hexd.findIdx (· == c))
/-- The two digits of a byte. -/
def hexOf (b : UInt8) : List UInt8 := [hexd.getD (b.toNat / 16) 0, hexd.getD (b.toNat % 16) 0]
def hexL (bs : List UInt8) : List UInt8 := bs.flatMap hexOf
/-- The bytes of digits, two by two; a last one alone stands by itself. -/
def part : List UInt8 → List UInt8
  | [] => []
  | [d] => [d]
  | d :: e :: r => (d * 16 + e) :: part r

theorem hexL_length (bs : List UInt8) : (hexL bs).length = 2 * bs.length := by
  induction bs with
  | nil => rfl
  | cons b bs ih => simp only [hexL, List.flatMap_cons, List.length_append, hexOf, List.length_cons, List.length_nil] at *; omega

theorem hexL_snoc (bs : List UInt8) (b : UInt8) : hexL (bs ++ [b]) = hexL bs ++ hexOf b := by simp [hexL]

theorem part_length : ∀ l : List UInt8, (part l).length = (l.length + 1) / 2
  | [] => rfl
  | [d] => by simp [part]
  | d :: e :: r => by have := part_length r; simp only [part, List.length_cons]; omega

theorem part_even : ∀ (l : List UInt8) (d : UInt8), l.length % 2 = 0 → part (l ++ [d]) = part l ++ [d]
  | [], d, _ => rfl
  | [x], d, h => by simp at h
  | x :: y :: r, d, h => by
    have := part_even r d (by simp only [List.length_cons] at h; omega)
    simp only [List.cons_append, part, this]

theorem part_odd : ∀ (l : List UInt8) (e d : UInt8), l.length % 2 = 0 → part (l ++ [e, d]) = part l ++ [e * 16 + d]
  | [], e, d, _ => rfl
  | [x], e, d, h => by simp at h
  | x :: y :: r, e, d, h => by
    have := part_odd r e d (by simp only [List.length_cons] at h; omega)
    simp only [List.cons_append, part, this]

theorem byte_all : ∀ b : Fin 256, isD (hexd.getD (b.val / 16) 0) = true ∧ isD (hexd.getD (b.val % 16) 0) = true ∧ valD (hexd.getD (b.val / 16) 0) * 16 + valD (hexd.getD (b.val % 16) 0) = UInt8.ofNat b.val := by decide +kernel

theorem byte_back (b : UInt8) : isD (hexd.getD (b.toNat / 16) 0) = true ∧ isD (hexd.getD (b.toNat % 16) 0) = true ∧ valD (hexd.getD (b.toNat / 16) 0) * 16 + valD (hexd.getD (b.toNat % 16) 0) = b := by
  have h := byte_all ⟨b.toNat, b.toNat_lt⟩
  simpa using h

theorem digit_all : ∀ i j : Fin 16, hexOf (valD (hexd.getD i.val 0) * 16 + valD (hexd.getD j.val 0)) = [hexd.getD i.val 0, hexd.getD j.val 0] := by decide +kernel

theorem isD_get (c : UInt8) (h : isD c = true) : ∃ i : Fin 16, c = hexd.getD i.val 0 := by
  have h1 : c ∈ hexd := by simpa [isD] using h
  obtain ⟨i, hi, rfl⟩ := List.getElem_of_mem h1
  exact ⟨⟨i, hi⟩, by simp [hi]⟩

theorem digits_back (c d : UInt8) (hc : isD c = true) (hd : isD d = true) : hexOf (valD c * 16 + valD d) = [c, d] := by
  obtain ⟨i, rfl⟩ := isD_get c hc
  obtain ⟨j, rfl⟩ := isD_get d hd
  exact digit_all i j

theorem valD_lt (c : UInt8) (h : isD c = true) : (valD c).toNat < 16 := by
  obtain ⟨i, rfl⟩ := isD_get c h
  have : ∀ i : Fin 16, (valD (hexd.getD i.val 0)).toNat < 16 := by decide +kernel
  exact this i

/-- Digits of bytes are digits, and are read as these. -/
theorem hex_unhex (bs : List UInt8) : (∀ c ∈ hexL bs, isD c = true) ∧ part ((hexL bs).map valD) = bs := by
  induction bs with
  | nil => exact ⟨by simp [hexL], rfl⟩
  | cons b bs ih =>
    obtain ⟨h1, h2, h3⟩ := byte_back b
    constructor
    · intro c hc
      simp only [hexL, List.flatMap_cons, List.mem_append] at hc
      rcases hc with hc | hc
      · simp only [hexOf, List.mem_cons, List.not_mem_nil, or_false] at hc
        rcases hc with rfl | rfl <;> assumption
      · exact ih.1 c hc
    · have : hexL (b :: bs) = hexd.getD (b.toNat / 16) 0 :: hexd.getD (b.toNat % 16) 0 :: hexL bs := rfl
      rw [this]
      simp only [List.map_cons, part, h3, ih.2]

/-- Digits that are read are those of their bytes. -/
theorem unhex_hex : ∀ cs : List UInt8, (∀ c ∈ cs, isD c = true) → cs.length % 2 = 0 → hexL (part (cs.map valD)) = cs
  | [], _, _ => rfl
  | [x], _, h => by simp at h
  | x :: y :: r, hd, h => by
    have ih := unhex_hex r (fun c hc => hd c (by simp [hc])) (by simp only [List.length_cons] at h; omega)
    have e := digits_back x y (hd x (by simp)) (hd y (by simp))
    simp only [List.map_cons, part]
    show hexOf _ ++ hexL (part (r.map valD)) = _
    rw [ih, e]
    rfl

/-- The bytes read so far, and noughts behind them. -/
def sofar (cs : List UInt8) (N k : Nat) : List UInt8 := part ((cs.take k).map valD) ++ List.replicate (N - (k + 1) / 2) 0

theorem set_mid {α : Type} (P R : List α) (a x : α) (h : Nat) (hP : P.length = h) : (P ++ a :: R).set h x = P ++ x :: R := by
  subst hP; simp

/-- One digit more. -/
theorem sofar_step (cs : List UInt8) (N k : Nat) (c : UInt8) (hN : N = (cs.length + 1) / 2) (hc : cs[k]? = some c) (hd : ∀ x ∈ cs.take k, isD x = true) :
    ∃ o : UInt8, (sofar cs N k)[k / 2]? = some o ∧ o.toNat < 16 ∧ sofar cs N (k + 1) = (sofar cs N k).set (k / 2) (o * 16 + valD c) := by
  have hk : k < cs.length := (List.getElem?_eq_some_iff.1 hc).1
  have hlen : (cs.take k).length = k := by simp; omega
  unfold sofar
  rw [take_snoc cs k c hc]
  rcases Nat.mod_two_eq_zero_or_one k with he | ho
  · have hP : (part ((cs.take k).map valD)).length = k / 2 := by rw [part_length, List.length_map, hlen]; omega
    have hR : List.replicate (N - (k + 1) / 2) (0 : UInt8) = 0 :: List.replicate (N - (k + 1 + 1) / 2) 0 := by
      rw [← List.replicate_succ]; congr 1; omega
    rw [hR]
    refine ⟨0, ?_, by simp, ?_⟩
    · rw [List.getElem?_append_right (by omega), hP]; simp
    · rw [set_mid _ _ _ _ _ hP, List.map_append, List.map_cons, List.map_nil, part_even _ _ (by rw [List.length_map, hlen]; exact he)]
      simp
  · obtain ⟨h, rfl⟩ : ∃ h, k = h + 1 := ⟨k - 1, by omega⟩
    obtain ⟨e, hce⟩ : ∃ e, cs[h]? = some e := ⟨cs[h]'(by omega), by simp [show h < cs.length by omega]⟩
    have hed : isD e = true := hd e (by rw [take_snoc cs h e hce]; simp)
    rw [take_snoc cs h e hce]
    have hlh : (cs.take h).length = h := by simp; omega
    have hev : ((cs.take h).map valD).length % 2 = 0 := by rw [List.length_map, hlh]; omega
    have hP : (part ((cs.take h).map valD)).length = (h + 1) / 2 := by rw [part_length, List.length_map, hlh]
    have e1 : part ((cs.take h ++ [e]).map valD) = part ((cs.take h).map valD) ++ [valD e] := by
      rw [List.map_append]; exact part_even _ _ hev
    have e2 : part ((cs.take h ++ [e] ++ [c]).map valD) = part ((cs.take h).map valD) ++ [valD e * 16 + valD c] := by
      rw [List.append_assoc, List.map_append]; exact part_odd _ _ _ hev
    rw [e1, e2, List.append_assoc, List.append_assoc, show (h + 1 + 1 + 1) / 2 = (h + 1 + 1) / 2 from by omega]
    refine ⟨valD e, ?_, valD_lt e hed, ?_⟩
    · rw [List.getElem?_append_right (by omega), hP]; simp
    · rw [List.singleton_append, List.singleton_append, set_mid _ _ _ _ _ hP]

theorem sofar_length (cs : List UInt8) (N k : Nat) (hk : k ≤ cs.length) (hN : N = (cs.length + 1) / 2) : (sofar cs N k).length = N := by
  unfold sofar
  rw [List.length_append, part_length, List.length_map, List.length_take, List.length_replicate]
  omega

theorem sofar_zero (cs : List UInt8) (N : Nat) : sofar cs N 0 = List.replicate N 0 := by simp [sofar, part]

theorem sofar_all (cs : List UInt8) (N : Nat) (hN : N = (cs.length + 1) / 2) : sofar cs N cs.length = part (cs.map valD) := by
  unfold sofar
  rw [List.take_length, ← hN, Nat.sub_self]
  simp

theorem nib_or (o v : UInt8) (ho : o.toNat < 16) (hv : v.toNat < 16) : bits .or .u8 ((o.toNat : Int) * 16) (v.toNat : Int) = ((o * 16 + v).toNat : Int) := by
  have h := Nat.shiftLeft_add_eq_or_of_lt (i := 4) (b := v.toNat) (by omega) o.toNat
  rw [Nat.shiftLeft_eq, show (2 : Nat) ^ 4 = 16 from rfl] at h
  rw [show (o.toNat : Int) * 16 = ((o.toNat * 16 : Nat) : Int) from by omega, u8_or_nat _ _ (by omega) (by omega), ← h]
  have : (o * 16 + v).toNat = o.toNat * 16 + v.toNat := by
    rw [UInt8.toNat_add, UInt8.toNat_mul]
    simp only [UInt8.reduceToNat]
    omega
  rw [this]

/-- The first place that holds no digit; the length, where each does. -/
def badAt (cs : List UInt8) : Nat := cs.findIdx fun c => !isD c

end Go.Proofs.YtmldfljgngkneaaDoor
