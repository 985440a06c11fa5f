/- What the program's functions on the set of rights answer. -/
import Derived.Test.YtjakelpdnmnofaaRImpl
import Derived.WalkKit
namespace Go.Proofs.Ytjakelpdnmnofaa
open Go.ChangeShapes Go.WideShapes Go.ChangeAt Go.RowKit Go.Maps
set_option linter.unusedVariables false

theorem plainElem_bool_inv {H : Type} {P : Program} {e : TypeId} (he : P.underlying e = some .bool) {v : Value} {z : DataW H × List MemPlace} (h : plainElem P e v = some z) : ∃ x, v = .bool x ∧ z = (.lit (.bool x), []) := by
  cases v <;> simp [plainElem, he] at h
  exact ⟨_, rfl, h.symm⟩
theorem keyOf_s (s : Bs) (hs : s.length ≤ maxLen) : keyOf Try.prog 9 (.string ⟨s.toArray⟩) = some (.string s) := by
  have hz : (ByteArray.mk s.toArray).size ≤ maxLen := by simpa [ByteArray.size] using hs
  simp [keyOf, Try.underlying9, mapKey, hz]
theorem SetAt.look {w : World} {b : Nat} {xs : List Bs} (h : SetAt w b xs) (s : Bs) (hs : s.length ≤ maxLen) : (Instr.lookup 47 (.map (some b)) (.string ⟨s.toArray⟩) false).run Try.prog w = .ok (.bool (decide (s ∈ xs))) w := by
  obtain ⟨n, D, hn, ho, hsi⟩ := h
  obtain ⟨v, ps, hrun, hv⟩ := ho.lookup keyS Try.underlying47 (Try.zeroValue4 w) (plainElem_bool Try.underlying4 false) (keyOf_s s hs)
  obtain ⟨x, rfl, hx⟩ := plainElem_bool_inv Try.underlying4 hv
  have := hsi.atKey s
  simp only [Prod.mk.injEq] at hx
  rw [this] at hx
  have e : decide (s ∈ xs) = x := by simpa using hx.1
  rw [e]; exact hrun
theorem SetAt.len {w : World} {b : Nat} {xs : List Bs} (h : SetAt w b xs) (ty : TypeId) : (Builtin.len_ #[47] ty #[.map (some b)]).run Try.prog w = .ok (.int .i64 xs.length) w := by
  obtain ⟨n, D, hn, ho, hsi⟩ := h
  rw [ho.len Try.underlying47 ty, hsi.size]
theorem SetAt.put {w : World} {b : Nat} {xs : List Bs} (h : SetAt w b xs) (hl : xs.length < 900) (s : Bs) (hs : s.length ≤ maxLen) : ∃ w', (Instr.mapUpdate 47 (.map (some b)) (.string ⟨s.toArray⟩) (.bool true)).run Try.prog w = .ok () w' ∧ SetAt w' b (if s ∈ xs then xs else s :: xs) ∧ w.grownBy w' (some b) := by
  obtain ⟨n, D, hn, ho, hsi⟩ := h
  have ho' := ho
  obtain ⟨es, clock, hb, F, hz, hD⟩ := ho
  have hz2 := hsi.size
  have ho2 : w.ownsMap (H := Unit) Try.prog 9 (plainElem Try.prog 4) b xs.length D := ⟨es, clock, hb, F, by
    have : Maps.size D = es.size := by rw [hD]; simp [Maps.size, length_sorted]
    omega, hD⟩
  obtain ⟨w', hrun, how, hg⟩ := ho2.update keyS Try.underlying47 (by unfold maxLen; omega) (keyOf_s s hs) (plainElem_bool Try.underlying4 true)
  refine ⟨w', hrun, ⟨xs.length + 1, _, by omega, how, ?_⟩, hg⟩
  by_cases hm : s ∈ xs
  · rw [if_pos hm]; exact hsi.again hm
  · rw [if_neg hm]; exact hsi.put hm
theorem SetAt.made (w : World) : SetAt (w.alloc (.map #[] 0)) w.heap.size [] := ⟨0, _, Nat.zero_le _, World.ownsMap_made w _ _ _, SetIs.none⟩

theorem getD_take {xs : List Bs} {m j : Nat} (hj : j < m) (hm : m ≤ xs.length) : (xs.take m).getD j [] = xs.getD j [] := by
  rw [getD_lt (by rw [List.length_take]; omega), getD_lt (by omega), List.getElem_take]
theorem rokTo_rok {xs : List Bs} {m : Nat} (h : rokTo xs m) (hm : m ≤ xs.length) : rok (xs.take m) = true := by
  rw [rok_iff]
  intro j hj
  rw [List.length_take] at hj
  have := h j (by omega)
  rw [getD_take (by omega) hm, getD_take (by omega) hm]
  exact this
theorem rokTo_new {xs : List Bs} {k : Nat} (h : rokTo xs (k + 1)) (hk : k < xs.length) : xs.getD k [] ∉ xs.take k := by
  have hn := asc_nodup (rok_asc (rokTo_rok h hk))
  rw [take_snoc_getD xs k [] hk] at hn
  intro hm
  exact (List.nodup_append.1 hn).2.2 _ hm _ (List.mem_singleton.2 rfl) rfl
theorem SetAt.snoc {w : World} {b : Nat} {xs : List Bs} {x : Bs} (h : SetAt w b (if x ∈ xs then xs else x :: xs)) (hn : x ∉ xs) : SetAt w b (xs ++ [x]) := by
  rw [if_neg hn] at h
  exact h.perm (List.perm_append_singleton x xs).symm
theorem take_le_six {xs : List Bs} {k : Nat} (h : k ≤ 6) : (xs.take k).length < 900 := by rw [List.length_take]; omega

/-- the set of the rights xs in a new map, and true; nil and false if they are not valid; nothing that was there changes -/
def SetOf (xs : List Bs) (w : World) (e : Ending) (w' : World) : Prop :=
  Below w.heap.size w w' ∧ ∃ m, e = .returned (.tuple #[.map m, .bool (rvs xs)]) ∧ (rvs xs = true → ∃ b, m = some b ∧ w.heap.size ≤ b ∧ SetAt w' b xs)
theorem setOf_any (w : World) (v : Value) (xs : List Bs) (h : Strs w v xs) (hs : Short xs) : Calls Try.prog 47 #[v] w (SetOf xs w) := by
  obtain ⟨a, ca, rfl, hla, hma, hxa⟩ := h
  unfold maxLen at hma
  obtain ⟨n, hN⟩ : ∃ n, n = xs.length := ⟨_, rfl⟩
  rw [← hN] at hla hxa ⊢
  have HN := Lib.hid hN
  have HX := Lib.hid hxa
  have HS := Lib.hid hs
  clear hN hxa hs
  by_cases h6 : 6 < n
  · have h6' : (6 : Int) < (n : Int) := by omega
    have HR : Hid (rvs xs = false) := Lib.hid (by rw [Bool.eq_false_iff]; intro h; have := rvs_len h; have := HN.out; omega)
    go_enter Try.func47, Try.ntmps47
    go_wp2_with fail
    go_ret2
    exact ⟨Below.refl _ _, none, by rw [HR.out]; rfl, fun h => by rw [HR.out] at h; cases h⟩
  have h6' : ¬ (6 : Int) < (n : Int) := by omega
  have hmm := @run_makeMap Try.prog
  go_enter Try.func47, Try.ntmps47
  go_wp2
  go_loopw [13] (fun i wr => ∃ k : Nat, k ≤ n ∧ i = .int .i64 k ∧ Hid (rokTo xs k) ∧ Hid (SetAt wr w.heap.size (xs.take k)) ∧ Hid (Below w.heap.size w wr)) (fun i _ => n - (intOf i).toNat)
  case atStart => exact ⟨0, Nat.zero_le _, rfl, Lib.hid (fun j hj => by omega), Lib.hid (SetAt.made w), Lib.hid ((Below.refl _ _).alloc (Nat.le_refl _) _)⟩
  case round =>
    obtain ⟨k, hk, rfl, HT, HA, HB⟩ := hrel
    by_cases hlt : k < n
    · have hlt' : (k : Int) < (n : Int) := by omega
      have hkx : k < xs.length := by rw [← HN.out]; exact hlt
      obtain ⟨b, o, rfl, hc0⟩ := HX.out k hlt
      have hc := (HB.out.cell (p := ⟨b, o + k, none⟩) (cell_lt hc0)).trans hc0
      clear hc0
      have HV := Lib.hid (fun w => irv_any w (xs.getD k []) (HS.out.at k))
      have HB1 := Lib.hid (fun h => rok_bad1 hkx h)
      have HB2 := Lib.hid (fun h0 h => rok_bad2 hkx h0 h)
      have HO := Lib.hid (fun h1 h2 => rokTo_succ HT.out h1 h2)
      have HTK := Lib.hid (take_snoc_getD xs k [] hkx)
      have HNW := Lib.hid (fun h => rokTo_new (xs := xs) (k := k) h hkx)
      have HSX := Lib.hid (short_max (HS.out.at k))
      generalize xs.getD k [] = x at hc HV HB1 HB2 HO HTK HNW HSX
      clear hkx
      cases hv : rv x with
      | false =>
        have HR := Lib.hid (HB1.out hv)
        rw [hv] at HV
        clear hv
        go_wp2_with fail
        refine (HV.out wr).mono ?_
        rintro e w1 ⟨rfl, hb1⟩
        have B1 := Lib.hid (HB.out.trans (hb1.mono HB.out.size))
        clear hb1
        go_wp2
        go_ret2
        exact ⟨B1.out, none, by rw [HR.out]; rfl, fun h => by rw [HR.out] at h; cases h⟩
      | true =>
        have HW := Lib.hid hv
        rw [hv] at HV
        clear hv
        rcases Nat.eq_zero_or_pos k with h0 | hpos
        · have hgt : ¬ (0 : Int) < (k : Int) := by omega
          have hgt2 : ¬ 0 < k := by omega
          have HO2 := Lib.hid (HO.out HW.out (fun h => absurd h hgt2))
          clear h0
          go_wp2_with fail
          refine (HV.out wr).mono ?_
          rintro e w1 ⟨rfl, hb1⟩
          have B1 := Lib.hid (HB.out.trans (hb1.mono HB.out.size))
          have A1 := Lib.hid (HA.out.below hb1)
          clear hb1
          obtain ⟨w2, hrun, hset, hg⟩ := A1.out.put (take_le_six (by omega)) x HSX.out
          have A2 := Lib.hid (hset.snoc (HNW.out HO2.out))
          rw [← HTK.out] at A2
          have B2 := Lib.hid (B1.out.grown hg B1.out.size (fun j hj => by cases hj; exact Nat.le_refl _))
          clear hset hg
          go_wp2
          go_roundw
          case rel => exact ⟨k + 1, by omega, by go_num, HO2, A2, B2⟩
          case measure => simp [intOf]; omega
        · obtain ⟨q, rfl⟩ : ∃ q, k = q + 1 := ⟨k - 1, by omega⟩
          have hgt : (0 : Int) < ((q + 1 : Nat) : Int) := by omega
          simp only [Nat.add_sub_cancel] at HB2 HO
          obtain ⟨b', o', e, hcq⟩ := HX.out q (by omega)
          cases e
          have hcy := (HB.out.cell (p := ⟨b, o + q, none⟩) (cell_lt hcq)).trans hcq
          clear hcq
          generalize xs.getD q [] = y at hcy HB2 HO
          cases hb : bl y x with
          | false =>
            have HR := Lib.hid (HB2.out (Nat.succ_pos _) hb)
            have hbb : Op.bytesLess y x = false := hb
            clear hb
            go_wp2_with fail
            refine (HV.out wr).mono ?_
            rintro e w1 ⟨rfl, hb1⟩
            have B1 := Lib.hid (HB.out.trans (hb1.mono HB.out.size))
            have hc1 := (hb1.cell (p := ⟨b, o + q, none⟩) (cell_lt hcy)).trans hcy
            clear hb1 hcy
            go_wp2_with fail
            go_ret2
            exact ⟨B1.out, none, by rw [HR.out]; rfl, fun h => by rw [HR.out] at h; cases h⟩
          | true =>
            have HO2 := Lib.hid (HO.out HW.out (fun _ => hb))
            have hbb : Op.bytesLess y x = true := hb
            clear hb
            go_wp2_with fail
            refine (HV.out wr).mono ?_
            rintro e w1 ⟨rfl, hb1⟩
            have B1 := Lib.hid (HB.out.trans (hb1.mono HB.out.size))
            have hc1 := (hb1.cell (p := ⟨b, o + q, none⟩) (cell_lt hcy)).trans hcy
            have A1 := Lib.hid (HA.out.below hb1)
            clear hb1 hcy
            obtain ⟨w2, hrun, hset, hg⟩ := A1.out.put (take_le_six (by omega)) x HSX.out
            have A2 := Lib.hid (hset.snoc (HNW.out HO2.out))
            rw [← HTK.out] at A2
            have B2 := Lib.hid (B1.out.grown hg B1.out.size (fun j hj => by cases hj; exact Nat.le_refl _))
            clear hset hg
            go_wp2
            go_roundw
            case rel => exact ⟨q + 1 + 1, by omega, by go_num, HO2, A2, B2⟩
            case measure => simp [intOf]; omega
    · have e : k = n := by omega
      have HR : Hid (rvs xs = true) := Lib.hid (by rw [rvs, rokTo_all HT.out (by rw [e]; exact HN.out), decide_eq_true (by have := HN.out; omega)]; rfl)
      have HA2 := Lib.hid (show SetAt wr w.heap.size xs by have := HA.out; rwa [take_all (by rw [e]; exact HN.out)] at this)
      go_wp2
      go_ret2
      exact ⟨HB.out, _, by rw [HR.out]; rfl, fun _ => ⟨_, rfl, Nat.le_refl _, HA2.out⟩⟩
end Go.Proofs.Ytjakelpdnmnofaa
