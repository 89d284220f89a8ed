/-
  The contracts of a tag's Write and Sum, and of hmac.Of: what later layers stand on.
-/
import Derived.Test.YtkpaldkmikjpiaaDoorHmacNew
import Derived.Test.YtkpaldkmikjpiaaDoorWriteD
namespace Go.Proofs.YtkpaldkmikjpiaaDoor
open Go.ChangeShapes Go.WideShapes Go.ChangeAt Go.RowKit

/-- sha's Write, at the inner digest. -/
theorem inner_write (w : World) (b : Nat) (key bs : List UInt8) (F : Nat → Prop) (h : MacAt w b key bs F) (x : Option Addr) (cx : Nat) (cs : List UInt8) (hx : Sees w x cx cs) (hT : KTab w) (hfit : 64 + bs.length + cs.length ≤ 1048576) :
    Calls Tryd.prog 46 #[.pointer (some ⟨b, 0, none⟩), .slice x cs.length cx] w fun e w' => ∃ F', e = .returned (.int .i64 0) ∧ MacAt w' b key (bs ++ cs) F' ∧ But b w w' ∧ ∀ k, F' k → F k ∨ w.heap.size ≤ k := by
  obtain ⟨a2, a, ho, hs, hl, hb, hf, hlt⟩ := h
  have hlen : (inK key).length = 64 := padK_length key _
  have hD : Dig (outR key a2) 81 w b (inK key ++ bs) := ⟨hl, a, ho, hs⟩
  by_cases h0 : cs = []
  · subst h0
    refine (write2_zero w b (inK key ++ bs) hD x cx hx).mono ?_
    rintro e w' ⟨rfl, hD', hB, a', h1, h2⟩
    obtain rfl := ho.same h1
    rw [List.append_nil]
    exact ⟨F, rfl, ⟨a2, a, h2, hD.sees hB hs, hl, hb, hf, fun k hk => Nat.lt_of_lt_of_le (hlt k hk) hB.size⟩, hB, fun k hk => .inl hk⟩
  · refine (write2_any w b (inK key ++ bs) hD x cx cs hx hT (by rw [List.length_append, hlen]; omega) h0).mono ?_
    rintro e w' ⟨rfl, hD', hB, a', h1, h2⟩
    rw [← List.length_append, List.append_assoc] at h1
    rw [List.append_assoc] at hD' h2
    obtain ⟨a3, ho3, hs3⟩ := hD'.obj
    obtain rfl := ho3.same h1
    refine ⟨fun k => k = b ∨ (w.heap.size ≤ k ∧ k < w'.heap.size), rfl, ⟨a2, a3, h1, hs3, hD'.len, .inl rfl, fun b' off ha hne => ?_, ?_⟩, hB, ?_⟩
    · obtain ⟨g, o, hg, hc⟩ := hs3.at' hne
      rw [ha] at hg
      obtain rfl : b' = g := by simpa using congrArg (fun o : Option Addr => o.map (·.block)) hg
      obtain ⟨y, hy⟩ : ∃ y, (leftOf (inK key ++ (bs ++ cs)))[0]? = some y := by
        cases hq : leftOf (inK key ++ (bs ++ cs)) with
        | nil => exact absurd hq hne
        | cons y _ => exact ⟨y, rfl⟩
      exact .inr ⟨h2 b' off ha hne, World.block_lt_of_cell? _ _ (hc 0 y hy)⟩
    · rintro k (rfl | hk)
      · exact Nat.lt_of_lt_of_le (hlt _ hb) hB.size
      · exact hk.2
    · rintro k (rfl | hk)
      · exact .inl hb
      · exact .inr hk.1

set_option maxHeartbeats 800000 in
set_option maxRecDepth 20000 in
theorem hwrite_ok (w : World) (b : Nat) (key bs : List UInt8) (F : Nat → Prop) (h : MacAt w b key bs F) (x : Option Addr) (cx : Nat) (cs : List UInt8) (hx : Sees w x cx cs) (hT : KTab w) (hfit : 64 + bs.length + cs.length ≤ 1048576) :
    Calls Tryd.prog 37 #[.pointer (some ⟨b, 0, none⟩), .slice x cs.length cx] w fun e w' => ∃ F', e = .returned (.int .i64 0) ∧ MacAt w' b key (bs ++ cs) F' ∧ But b w w' ∧ ∀ k, F' k → F k ∨ w.heap.size ≤ k := by
  have hw := inner_write w b key bs F h x cx cs hx hT hfit
  clear h hx hT
  go_enter Tryd.func37, Tryd.ntmps37
  go_wp2_with fail
  refine hw.mono ?_
  rintro e w' ⟨F', rfl, h1, h2, h3⟩
  clear hw
  go_wp2
  go_ret
  exact ⟨F', rfl, h1, h2, h3⟩

set_option maxHeartbeats 1600000 in
set_option maxRecDepth 20000 in
theorem hsum_own (w : World) (b : Nat) (key bs : List UInt8) (F : Nat → Prop) (h : MacAt w b key bs F) (hT : KTab w) :
    Calls Tryd.prog 38 #[.pointer (some ⟨b, 0, none⟩)] w fun e w' => ∃ d cd r, Hid (r = hmacL key bs) ∧ e = .returned (.tuple #[.slice d r.length cd, .int .i64 0]) ∧ Sees w' d cd r ∧ Below w.heap.size w w' ∧ w'.ownsRow w.heap.size 5 1 (.slice d r.length cd) r.length (r.map cellOf) := by
  obtain ⟨a2, a, ho, hs, hl, hb, hf, hlt⟩ := h
  have hD : Dig (outR key a2) 81 w b (inK key ++ bs) := ⟨hl, a, ho, hs⟩
  have HT : Hid (KTab w) := hT
  have HO : Hid (w.rangeAt b 11 (outR key a2)) := fun j v hv => ho.cellAt (11 + j) (by rw [Nat.add_comm]; exact hv)
  have hbl := ho.lt
  have hsum := sum_yes w b (inK key ++ bs) hD hT
  clear ho hs hl hb hf hlt hD hT
  go_enter Tryd.func38, Tryd.ntmps38
  go_wp2_with fail
  refine hsum.mono ?_
  rintro e w1 ⟨d1, c1, r1, hr1, rfl, hs1, hb1⟩
  have hlen : (outK key).length = 64 := padK_length key _
  have hnil : leftOf (outK key) = [] := leftOf_64 _ hlen
  have hrl : r1.length = 32 := by rw [hr1.out]; exact shaL_length _
  have HRL : Hid (r1.length = 32) := hrl
  have hcp := copy_at w1 b 11 (outK key) (by rw [hlen]; omega) a2 (by
      intro j v hv
      rw [hnil, hlen] at hv
      have h1 := HO.out j v hv
      rw [hb1.cell (p := ⟨b, 11 + j, none⟩) hbl]; exact h1) (by rw [hnil]; exact ⟨Nat.le_refl _, by simp, fun _ => rfl, fun h => absurd rfl h⟩)
  clear hsum hlen hnil hrl
  go_wp2_with fail
  refine hcp.mono ?_
  rintro e w2 ⟨rfl, hD2, hb2⟩
  have bel2 : Below w.heap.size w w2 := hb1.trans (hb2.mono hb1.size)
  have hwr := write_any w2 w1.heap.size (outK key) hD2 d1 c1 r1 (hs1.below hb2) (HT.out.below bel2) (by rw [HRL.out, show (outK key).length = 64 from padK_length key _]; omega)
  clear hcp
  go_wp2_with fail
  refine hwr.mono ?_
  rintro e w3 ⟨rfl, hD3, hbt3⟩
  obtain ⟨n, s, v, ho2⟩ := hD2.obj'
  have bel3 : Below w.heap.size w w3 := hbt3.below bel2 hb1.size
  have hend := sum_own w3 w1.heap.size (outK key ++ r1) hD3 ((HT.out.below bel2).but ho2 hbt3)
  clear hwr ho2 hD2 hD3
  go_wp2_with fail
  refine hend.mono ?_
  rintro e w4 ⟨d, cd, r, hr, rfl, hs4, hb4, ho4⟩
  clear hend
  go_wp2
  go_ret2
  exact ⟨d, cd, r, hr.out.trans (by rw [hr1.out]; rfl), rfl, hs4, bel3.trans (hb4.mono bel3.size), ho4.mono bel3.size⟩

set_option maxHeartbeats 800000 in
set_option maxRecDepth 20000 in
theorem hof_own (w : World) (a : Option Addr) (ca : Nat) (key : List UInt8) (b : Option Addr) (cb : Nat) (bs : List UInt8) (hF : FTab w) (hT : KTab w) (ha : Sees w a ca key) (hb : Sees w b cb bs) (hk : key.length ≤ 1048576) (hl : 64 + bs.length ≤ 1048576) :
    Calls Tryd.prog 25 #[.slice a key.length ca, .slice b bs.length cb] w fun e w' => ∃ d cd r, Hid (r = hmacL key bs) ∧ e = .returned (.tuple #[.slice d r.length cd, .int .i64 0]) ∧ Sees w' d cd r ∧ Below w.heap.size w w' ∧ w'.ownsRow w.heap.size 5 1 (.slice d r.length cd) r.length (r.map cellOf) := by
  have HT : Hid (KTab w) := hT
  have HB : Hid (Sees w b cb bs) := hb
  have hnew := hnew_ok w a ca key ha hF hT hk
  clear hF hT ha hb
  go_enter Tryd.func25, Tryd.ntmps25
  go_wp2_with fail
  refine hnew.mono ?_
  rintro e w1 ⟨m, rfl, hm, hM1, hb1⟩
  have hw := hwrite_ok w1 m key [] _ hM1 b cb bs (HB.out.below hb1) (HT.out.below hb1) (by simp; omega)
  rw [List.nil_append] at hw
  clear hnew
  go_wp2_with fail
  refine hw.mono ?_
  rintro e w2 ⟨F2, rfl, hM2, hbt2, _⟩
  have hb2 : Below w.heap.size w w2 := hbt2.below hb1 hm
  obtain ⟨a2, hD1⟩ := hM1.dig
  obtain ⟨n, s, v, ho1⟩ := hD1.obj'
  have hsum := hsum_own w2 m key bs F2 hM2 ((HT.out.below hb1).but ho1 hbt2)
  clear hw ho1 hD1 hM1 hM2
  go_wp2_with fail
  refine hsum.mono ?_
  rintro e w3 ⟨d, cd, r, hr, rfl, hs3, hb3, ho3⟩
  clear hsum
  go_wp2
  go_ret2
  exact ⟨d, cd, r, hr, rfl, hs3, hb2.trans (hb3.mono hb2.size), ho3.mono hb2.size⟩
end Go.Proofs.YtkpaldkmikjpiaaDoor
