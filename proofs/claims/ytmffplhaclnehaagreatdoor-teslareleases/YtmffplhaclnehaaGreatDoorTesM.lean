/-
  A receiver as the document says it, over plain values: what each call answers and what it leaves; what holds of it always; the program goes over what waits in its own way. No contract here.
-/
import Derived.Test.YtmffplhaclnehaaGreatDoorPureB
import Derived.Test.YtmffplhaclnehaaGreatDoorSealA
import Derived.Test.YtmffplhaclnehaaGreatDoorChainC
namespace Go.Proofs.YtmffplhaclnehaaGreatDoor
structure Rv where
  c : Cf
  me : Int
  ep : Int
  st : Int
  ix : Int
  key : List UInt8
  b : Bs
  last : Int
def newR (c : Cf) (me : Int) : Rv := ⟨c, me, -1, 0, -1, [], ⟨c.p.toNat, 0, []⟩, -1⟩
def keyArg (s : Rv) (i : Int) (k : List UInt8) : Bool := decide (0 ≤ i) && decide (i ≤ s.c.k) && decide (k.length = 16)
def ancArg (s : Rv) (e t i : Int) (k : List UInt8) : Bool := decide (0 ≤ e) && decide (e ≤ 65535) && decide (0 ≤ t) && decide (t < 1048576) && keyArg s i k
def ancE (s : Rv) (e t i : Int) (k : List UInt8) : Int :=
  if ancArg s e t i k = false then 1 else if e < s.ep then 10 else if s.ep < e then 0 else if t ≠ s.st then 11
  else if s.ix < i then (folP s.ix s.key i k : Int) else if folP i k s.ix s.key ≠ 0 then 11 else 0
def ancV (s : Rv) (e t i : Int) (k : List UInt8) : Rv :=
  if ancArg s e t i k = false then s else if e < s.ep then s
  else if s.ep < e then { s with ep := e, st := t, ix := i, key := k, b := dropV s.b (e, 0) }
  else if t ≠ s.st then s else if s.ix < i ∧ folP s.ix s.key i k = 0 then { s with ix := i, key := k } else s
def idxN (c : Cf) (st r : Int) : Int := if sinB c st r = true ∧ keyB c (r - st) = true then r - st else 0
def offB (s : Rv) (x : List UInt8) (m : Int) : Int :=
  if getE x ≠ 0 then (getE x : Int) else if (getF x).k ≠ 1 ∨ (getF x).f ≠ s.me then 1 else if s.ep < 0 ∨ (getF x).e ≠ s.ep then 6
  else if (getF x).r ≤ s.last then 10 else rsecN s.c s.me s.st (getF x).r m
def offE (s : Rv) (x : List UInt8) (m : Int) : Int := if offB s x m ≠ 0 then offB s x m else bputE s.b (getF x).e (idxN s.c s.st (getF x).r) x
def offV (s : Rv) (x : List UInt8) (m : Int) : Rv := if offB s x m ≠ 0 then s else { s with b := putV s.b (getF x).e (idxN s.c s.st (getF x).r) x }
def freeL (L : List (List UInt8)) (k : List UInt8) (last : Int) : Option Fr :=
  match (L.map getF).find? (fun F => holdsB k F) with
  | none => none
  | some F => if F.r ≤ last then none else some F
def freeR (s : Rv) (i : Int) (k : List UInt8) : Rv × List Fr :=
  match freeL (btakeL s.b (s.ep, i)) k s.last with
  | none => ({ s with b := takeV s.b (s.ep, i) }, [])
  | some F => ({ s with b := takeV s.b (s.ep, i), last := F.r }, [F])
def relN (k : List UInt8) (j i0 : Int) (s : Rv) : Nat → Rv × List Fr
  | 0 => (s, [])
  | n + 1 => ((freeR (relN k j i0 s n).1 (i0 + n) (backP k (j - (i0 + n))).1).1, (relN k j i0 s n).2 ++ (freeR (relN k j i0 s n).1 (i0 + n) (backP k (j - (i0 + n))).1).2)
def telE (s : Rv) (e i : Int) (k : List UInt8) : Int :=
  if s.ep < 0 ∨ e ≠ s.ep then 6 else if keyArg s i k = false then 1 else if i ≤ s.ix then 10 else (folP s.ix s.key i k : Int)
def telS (s : Rv) (i : Int) (k : List UInt8) : Rv := { s with ix := i, key := k }
def telR (s : Rv) (e i : Int) (k : List UInt8) : Rv × List Fr :=
  if telE s e i k ≠ 0 then (s, []) else relN k i (s.ix + 1) (telS s i k) (i - s.ix).toNat
structure Rv.ok (s : Rv) : Prop where
  cfg : okB s.c = true
  me0 : 0 ≤ s.me
  me1 : s.me < s.c.n
  ep : s.ep = -1 ∨ (0 ≤ s.ep ∧ s.ep ≤ 65535 ∧ 0 ≤ s.st ∧ s.st < 1048576 ∧ 0 ≤ s.ix ∧ s.ix ≤ s.c.k ∧ s.key.length = 16)
  buf : s.b.ok
  its : ∀ x ∈ s.b.L, x.e = s.ep ∧ getE x.b = 0 ∧ (getF x.b).r = s.st + x.i ∧ (getF x.b).f = s.me ∧ x.i ≤ s.c.k
theorem okB_keys {c : Cf} (h : okB c = true) : 1 ≤ c.k ∧ c.k ≤ 256 ∧ 1 ≤ c.p ∧ c.p ≤ 64 ∧ 1 ≤ c.n ∧ c.n ≤ 8 := by
  simp only [okB, nodesB, slotsB, keysB, clocksB, Bool.and_eq_true, decide_eq_true_eq] at h
  omega
theorem keyArg_iff {s : Rv} {i : Int} {k : List UInt8} : keyArg s i k = true ↔ 0 ≤ i ∧ i ≤ s.c.k ∧ k.length = 16 := by simp [keyArg, and_assoc]
theorem ancArg_iff {s : Rv} {e t i : Int} {k : List UInt8} : ancArg s e t i k = true ↔ 0 ≤ e ∧ e ≤ 65535 ∧ 0 ≤ t ∧ t < 1048576 ∧ 0 ≤ i ∧ i ≤ s.c.k ∧ k.length = 16 := by simp [ancArg, keyArg, and_assoc]
theorem new_is_ok {c : Cf} {me : Int} (h : okB c = true) (h0 : 0 ≤ me) (h1 : me < c.n) : (newR c me).ok :=
  ⟨h, h0, h1, .inl rfl, ⟨by have := okB_keys h; show 1 ≤ c.p.toNat; omega, by have := okB_keys h; show c.p.toNat ≤ 64; omega, by simp [newR], fun x hx => by simp [newR] at hx⟩, fun x hx => by simp [newR] at hx⟩
theorem ancV_ok {s : Rv} (h : s.ok) (e t i : Int) (k : List UInt8) : (ancV s e t i k).ok := by
  unfold ancV
  split
  · exact h
  · rename_i ha
    rw [Bool.not_eq_false, ancArg_iff] at ha
    split
    · exact h
    · split
      · rename_i hlt
        refine ⟨h.cfg, h.me0, h.me1, .inr ⟨ha.1, ha.2.1, ha.2.2.1, ha.2.2.2.1, ha.2.2.2.2.1, ha.2.2.2.2.2.1, ha.2.2.2.2.2.2⟩, dropV_ok h.buf _, fun x hx => ?_⟩
        exfalso
        simp only [dropV] at hx
        obtain ⟨hx, hl⟩ := List.mem_filter.1 hx
        have := (h.its x hx).1
        simp [lowK] at hl
        omega
      · split
        · exact h
        · split
          · rename_i h1 h2
            rcases h.ep with h3 | ⟨h3, h4, h5, h6, h7, h8, h9⟩
            · omega
            · exact ⟨h.cfg, h.me0, h.me1, .inr ⟨h3, h4, h5, h6, ha.2.2.2.2.1, ha.2.2.2.2.2.1, ha.2.2.2.2.2.2⟩, h.buf, h.its⟩
          · exact h
theorem rsec_zero {c : Cf} {sl st r m : Int} (h : rsecN c sl st r m = 0) : sinB c st r = true ∧ keyB c (r - st) = true := by
  unfold rsecN secN at h
  repeat' split at h
  all_goals first | omega | (constructor <;> assumption)
theorem putV_mem {s : Bs} {e i : Int} {x : List UInt8} {y : It} (h : y ∈ (putV s e i x).L) : y ∈ s.L ∨ y = ⟨e, i, x⟩ := by
  unfold putV at h
  split at h
  · exact .inl h
  · split at h
    · exact .inl h
    · split at h
      · split at h
        · exact .inl h
        · rcases List.mem_append.1 h with h | h
          · exact .inl ((split_mem _ _ _ y).2 h)
          · exact .inr (List.mem_singleton.1 h)
      · rcases List.mem_append.1 h with h | h
        · exact .inl h
        · exact .inr (List.mem_singleton.1 h)
theorem putV_more (s : Bs) (e i : Int) (x : List UInt8) : (putV s e i x).lost ≤ s.lost + 1 := by
  unfold putV
  repeat' split
  all_goals simp
theorem offB_zero {s : Rv} {x : List UInt8} {m : Int} (h : offB s x m = 0) : getE x = 0 ∧ (getF x).k = 1 ∧ (getF x).f = s.me ∧ 0 ≤ s.ep ∧ (getF x).e = s.ep ∧ s.last < (getF x).r ∧ rsecN s.c s.me s.st (getF x).r m = 0 ∧ idxN s.c s.st (getF x).r = (getF x).r - s.st ∧ 1 ≤ (getF x).r - s.st ∧ (getF x).r - s.st ≤ s.c.k := by
  unfold offB at h
  split at h
  · omega
  · split at h
    · omega
    · split at h
      · omega
      · split at h
        · omega
        · rename_i h1 h2 h3 h4
          have h5 := rsec_zero h
          have h6 := key_in h5.2
          refine ⟨by omega, by omega, by omega, by omega, by omega, by omega, h, ?_, h6.1, h6.2⟩
          unfold idxN
          rw [if_pos h5]
theorem offV_ok {s : Rv} (h : s.ok) (x : List UInt8) (m : Int) : (offV s x m).ok := by
  unfold offV
  split
  · exact h
  · rename_i h0
    obtain ⟨h1, h2, h3, h4, h5, h6, h7, h8, h9, h10⟩ := offB_zero (Decidable.not_not.1 h0)
    refine ⟨h.cfg, h.me0, h.me1, h.ep, putV_ok h.buf _ _ _, fun y hy => ?_⟩
    rcases putV_mem hy with hy | rfl
    · exact h.its y hy
    · exact ⟨h5, h1, by show (getF x).r = s.st + idxN s.c s.st (getF x).r; omega, h3, by show idxN s.c s.st (getF x).r ≤ _; show _ ≤ s.c.k; omega⟩
theorem offV_lost (s : Rv) (x : List UInt8) (m : Int) : (offV s x m).b.lost ≤ s.b.lost + 1 := by
  unfold offV
  split
  · omega
  · exact putV_more _ _ _ _
theorem Rv.ok.taken {s : Rv} (h : s.ok) (k : Key) (l : Int) : Rv.ok { s with b := takeV s.b k, last := l } :=
  ⟨h.cfg, h.me0, h.me1, h.ep, takeV_ok h.buf k, fun x hx => h.its x (List.mem_filter.1 hx).1⟩
theorem freeR_eq (s : Rv) (i : Int) (k : List UInt8) : (freeR s i k).1 = { s with b := takeV s.b (s.ep, i), last := (freeR s i k).1.last } ∧ (freeR s i k).2.length ≤ 1 := by
  unfold freeR
  split <;> exact ⟨rfl, by simp⟩
theorem freeR_ok {s : Rv} (h : s.ok) (i : Int) (k : List UInt8) : (freeR s i k).1.ok := by
  rw [(freeR_eq s i k).1]; exact h.taken _ _
theorem relN_same (k : List UInt8) (j i0 : Int) (s : Rv) : ∀ n, (relN k j i0 s n).1.c = s.c ∧ (relN k j i0 s n).1.me = s.me ∧ (relN k j i0 s n).1.ep = s.ep ∧ (relN k j i0 s n).1.st = s.st ∧ (relN k j i0 s n).1.ix = s.ix ∧ (relN k j i0 s n).1.key = s.key ∧ (relN k j i0 s n).1.b.lost = s.b.lost ∧ (relN k j i0 s n).2.length ≤ n
  | 0 => ⟨rfl, rfl, rfl, rfl, rfl, rfl, rfl, by simp [relN]⟩
  | n + 1 => by
    obtain ⟨h1, h2, h3, h4, h5, h6, h7, h8⟩ := relN_same k j i0 s n
    have h := freeR_eq (relN k j i0 s n).1 (i0 + n) (backP k (j - (i0 + n))).1
    simp only [relN]
    rw [h.1]
    refine ⟨h1, h2, h3, h4, h5, h6, h7, ?_⟩
    have := h.2
    rw [List.length_append]
    omega
theorem relN_ok {s : Rv} (h : s.ok) (k : List UInt8) (j i0 : Int) : ∀ n, (relN k j i0 s n).1.ok
  | 0 => h
  | n + 1 => freeR_ok (relN_ok h k j i0 n) _ _
theorem telE_zero {s : Rv} {e i : Int} {k : List UInt8} (h : telE s e i k = 0) : 0 ≤ s.ep ∧ e = s.ep ∧ 0 ≤ i ∧ i ≤ s.c.k ∧ k.length = 16 ∧ s.ix < i ∧ folP s.ix s.key i k = 0 := by
  unfold telE at h
  split at h
  · omega
  · split at h
    · omega
    · rename_i h1 h2
      rw [Bool.not_eq_false, keyArg_iff] at h2
      split at h
      · omega
      · exact ⟨by omega, by omega, h2.1, h2.2.1, h2.2.2, by omega, by omega⟩
theorem telS_ok {s : Rv} (h : s.ok) {e i : Int} {k : List UInt8} (h0 : telE s e i k = 0) : (telS s i k).ok := by
  obtain ⟨h1, h2, h3, h4, h5, h6, h7⟩ := telE_zero h0
  rcases h.ep with g | ⟨g1, g2, g3, g4, g5, g6, g7⟩
  · omega
  · exact ⟨h.cfg, h.me0, h.me1, .inr ⟨g1, g2, g3, g4, h3, h4, h5⟩, h.buf, h.its⟩
theorem telR_ok {s : Rv} (h : s.ok) (e i : Int) (k : List UInt8) : (telR s e i k).1.ok := by
  unfold telR
  split
  · exact h
  · rename_i h0
    exact relN_ok (telS_ok h (Decidable.not_not.1 h0)) _ _ _ _
theorem telR_lost (s : Rv) (e i : Int) (k : List UInt8) : (telR s e i k).1.b.lost = s.b.lost := by
  unfold telR
  split
  · rfl
  · exact (relN_same _ _ _ _ _).2.2.2.2.2.2.1
def goS (k : List UInt8) (p : Int × List Fr) (x : List UInt8) : Int × List Fr := if p.1 < (getF x).r ∧ holdsB k (getF x) = true then ((getF x).r, p.2 ++ [getF x]) else p
def goF (k : List UInt8) (p : Int × List Fr) (L : List (List UInt8)) : Int × List Fr := L.foldl (goS k) p
theorem goF_cons (k : List UInt8) (p : Int × List Fr) (x : List UInt8) (L : List (List UInt8)) : goF k p (x :: L) = goF k (goS k p x) L := rfl
theorem goF_snoc (k : List UInt8) (p : Int × List Fr) (L : List (List UInt8)) (x : List UInt8) : goF k p (L ++ [x]) = goS k (goF k p L) x := by simp [goF, List.foldl_append]
theorem goF_stay (k : List UInt8) : ∀ (L : List (List UInt8)) (p : Int × List Fr), (∀ x ∈ L, (getF x).r ≤ p.1) → goF k p L = p
  | [], p, _ => rfl
  | x :: L, p, h => by
    have e : goS k p x = p := if_neg (by have := h x List.mem_cons_self; omega)
    rw [goF_cons, e]
    exact goF_stay k L p fun y hy => h y (List.mem_cons_of_mem _ hy)
def freeP (L : List (List UInt8)) (k : List UInt8) (p : Int × List Fr) : Int × List Fr := match freeL L k p.1 with
  | none => p
  | some F => (F.r, p.2 ++ [F])
theorem goF_free (k : List UInt8) (r0 : Int) : ∀ (L : List (List UInt8)) (p : Int × List Fr), (∀ x ∈ L, (getF x).r = r0) → goF k p L = freeP L k p
  | [], p, _ => rfl
  | x :: L, p, h => by
    have hx := h x List.mem_cons_self
    have hL : ∀ y ∈ L, (getF y).r = r0 := fun y hy => h y (List.mem_cons_of_mem _ hy)
    rw [goF_cons]
    cases hh : holdsB k (getF x)
    · have e : goS k p x = p := if_neg (by simp [hh])
      rw [e, goF_free k r0 L p hL]
      unfold freeP freeL
      rw [List.map_cons, List.find?_cons_of_neg (by simp [hh])]
    · have ef : freeL (x :: L) k p.1 = if (getF x).r ≤ p.1 then none else some (getF x) := by
        unfold freeL
        rw [List.map_cons, List.find?_cons_of_pos (by simp [hh])]
      by_cases hr : (getF x).r ≤ p.1
      · have e : goS k p x = p := if_neg (by omega)
        rw [e, goF_stay k L p fun y hy => by rw [hL y hy]; omega]
        unfold freeP
        rw [ef, if_pos hr]
      · have e : goS k p x = ((getF x).r, p.2 ++ [getF x]) := if_pos ⟨by omega, hh⟩
        rw [e, goF_stay k L _ fun y hy => by rw [hL y hy, hx]; exact Int.le_refl _]
        unfold freeP
        rw [ef, if_neg hr]
theorem Rv.ok.cell {s : Rv} (h : s.ok) (i : Int) : ∀ x ∈ btakeL s.b (s.ep, i), getE x = 0 ∧ (getF x).r = s.st + i ∧ (getF x).f = s.me := by
  intro x hx
  obtain ⟨y, hy, rfl⟩ := List.mem_map.1 hx
  obtain ⟨hy, hk⟩ := List.mem_filter.1 hy
  have hk := isK_iff.1 hk
  obtain ⟨h1, h2, h3, h4, h5⟩ := h.its y hy
  have : y.i = i := congrArg Prod.snd hk
  exact ⟨h2, by rw [h3, this], h4⟩
def cellP (s : Rv) (i : Int) (p : Int × List Fr) : Rv := { s with b := takeV s.b (s.ep, i), last := p.1 }
theorem cell_eq {s : Rv} (h : s.ok) (i : Int) (k : List UInt8) (out : List Fr) : ((freeR s i k).1, out ++ (freeR s i k).2) = (cellP s i (goF k (s.last, out) (btakeL s.b (s.ep, i))), (goF k (s.last, out) (btakeL s.b (s.ep, i))).2) := by
  rw [goF_free k (s.st + i) _ _ fun x hx => (h.cell i x hx).2.1]
  unfold freeR freeP cellP
  cases freeL (btakeL s.b (s.ep, i)) k s.last <;> simp
theorem btake_len {s : Bs} (h : s.ok) (k : Key) : (btakeL s k).length ≤ 64 := by
  unfold btakeL
  rw [List.length_map]
  exact Nat.le_trans (List.length_filter_le _ _) (Nat.le_trans h.len h.hi)
end Go.Proofs.YtmffplhaclnehaaGreatDoor
