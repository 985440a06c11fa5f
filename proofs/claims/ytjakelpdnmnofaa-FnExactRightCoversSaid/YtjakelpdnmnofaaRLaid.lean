/- What slices.Sorted and maps.Keys return for a set of texts that is kept in a map. -/
import Derived.Test.YtjakelpdnmnofaaRSet
import Derived.Test.YtjakelpdnmnofaaRLay
import Derived.Test.YtjakelpdnmnofaaRApp
import Derived.Shelf.SlIter.Nil
import Derived.Shelf.SortM.Plain
import Derived.Shelf.SortM.SortNone
import Derived.Shelf.SlMaps.DeleteFunc
namespace Go.Proofs.Ytjakelpdnmnofaa
open Go.ChangeShapes Go.WideShapes Go.ChangeAt Go.RowKit Go.Maps Go.Sort Go.Shelf
set_option linter.unusedVariables false

theorem sortsS (m : Nat) : AnyZ.SortsIn Try.prog laySorted_ren Fence.wide m :=
  ⟨fun blk off cap ss W hH hblk hsz => callsIn_wide.2 (AnyM.slices_Sort_string laySort blk off cap ss W hH hblk hsz),
   fun p cap W => callsIn_wide.2 (AnyM.slices_Sort_string_none laySort p cap W)⟩
theorem maps_Keys (mb : Option Nat) (W : World) : CallsIn Fence.wide 5 Try.prog 60 #[.map mb] W fun e w' => e = .returned (.func (.func 63) #[] #[.pointer (some ⟨W.heap.size, 0, none⟩)]) ∧ w' = W.alloc (.cells #[.map mb] 47) :=
  AnyZ.keys_in layKeys Fence.wide 5 trivial rfl mb W
set_option maxHeartbeats 1000000 in
theorem sorted_Keys {H : Type} (b nn : Nat) (D0 : DataW H) (R : Value → Option (DataW H × List MemPlace)) (w : World) (hown : w.ownsMap Try.prog 9 R b nn D0) (hmax : Maps.size D0 ≤ maxLen) (hbytes : Maps.size D0 * 16 ≤ 140737488355328) :
    CallsIn Fence.wide 5 Try.prog 59 #[.func (.func 63) #[] #[.pointer (some ⟨w.heap.size, 0, none⟩)]] (w.alloc (.cells #[.map (some b)] 47)) fun e w' => ∃ (v : Value) (ss : List (List UInt8)), e = .returned v ∧ ss.Perm (strKeys D0) ∧
      w'.ownsRow (w.alloc (.cells #[.map (some b)] 47)).heap.size 9 1 v ss.length ((ss.mergeSort (fun x y => decide (x ≤ y))).map encStr) ∧ (v = .slice none 0 0 ↔ ss = []) ∧ Below (w.alloc (.cells #[.map (some b)] 47)).heap.size (w.alloc (.cells #[.map (some b)] 47)) w' := by
  have hbl := hown.lt
  have hseq : SeqGives Fence.wide 2 Try.prog 63 #[.pointer (some ⟨w.heap.size, 0, none⟩)] encStr (fun ss => ss.Perm (strKeys D0)) (Maps.size D0) (w.alloc (.cells #[.map (some b)] 47)) :=
    AnyZ.keys_gives (ρ := layKeys_ren) { layKeys with } Fence.wide _ trivial rfl (by omega) w.heap.size b nn D0 _ (by simp) (by simp) (by
      obtain ⟨es, clock, hb, Ft, hs, hD⟩ := hown
      exact ⟨es, clock, (Below.heap_alloc _ _ b hbl).trans hb, Ft, hs, hD⟩)
  exact AnyZ.sorted_in laySorted Fence.wide 5 trivial trivial trivial trivial rfl (by omega) (sortsS _) (enters_of Try.func62 (by kernel_rfl) rfl) 63 #[.pointer (some ⟨w.heap.size, 0, none⟩)] trivial (enters_of Try.func63 (by kernel_rfl) rfl) _ _ hmax hbytes _ hseq

/-- the key's law of texts -/
theorem keyS : Keyed Try.prog 9 := string_keyed Try.underlying9
/-- the map in block b is the set of the texts xs -/
def SetAt (w : World) (b : Nat) (xs : List Bs) : Prop := ∃ n D, n ≤ 1000 ∧ w.ownsMap (H := Unit) Try.prog 9 (plainElem Try.prog 4) b n D ∧ SetIs D xs
theorem SetAt.kept {w w' : World} {b : Nat} {xs : List Bs} {row : Option Nat} (h : SetAt w b xs) (hg : w.grownBy w' row) (hne : some b ≠ row) : SetAt w' b xs := by
  obtain ⟨n, D, hn, ho, hs⟩ := h
  exact ⟨n, D, hn, ho.kept hg hne, hs⟩
theorem SetAt.below {w w' : World} {b : Nat} {xs : List Bs} (h : SetAt w b xs) (hb : Below w.heap.size w w') : SetAt w' b xs :=
  h.kept (row := none) ⟨hb.os, hb.tape, hb.output, hb.size, fun i hi _ => hb.block i hi⟩ (by simp)
theorem SetAt.lt {w : World} {b : Nat} {xs : List Bs} (h : SetAt w b xs) : b < w.heap.size := by
  obtain ⟨n, D, hn, ho, hs⟩ := h
  exact ho.lt
theorem SetAt.perm {w : World} {b : Nat} {xs ys : List Bs} (h : SetAt w b xs) (hp : xs.Perm ys) : SetAt w b ys := by
  obtain ⟨n, D, hn, ho, hs⟩ := h
  exact ⟨n, D, hn, ho, hs.perm hp⟩

set_option maxHeartbeats 1000000 in
/-- the set's texts in their order, in a new slice -/
theorem setList_any (w : World) (b : Nat) (xs ys : List Bs) (h : SetAt w b xs) (hp : xs.Perm ys) (ha : Asc ys) (hl : ys.length ≤ 1000) :
    Calls Try.prog 51 #[.map (some b)] w (NewS ys w) := by
  obtain ⟨nn, D0, hnn, hown, hs⟩ := h.perm hp
  have hz := hs.size
  have hmax : Maps.size D0 ≤ maxLen := by unfold maxLen; omega
  have hbytes : Maps.size D0 * 16 ≤ 140737488355328 := by omega
  have HL := Lib.hid (fun ss hp => hs.sorted ha (ss := ss) hp)
  have HP := Lib.hid (perm_str hs)
  have HO := Lib.hid hown
  refine (callsIn_wide (n := 6)).1 ?_
  have hfK : Fence.wide.fn 60 := trivial
  have hfS : Fence.wide.fn 59 := trivial
  clear hs hz
  refine callsIn_of_wp Try.func51 rfl trivial ?_ rfl
  simp only [Try.ntmps51, List.size_toArray, List.length_cons, List.length_nil, Nat.reduceAdd, Nat.reduceSub, Array.replicate_succ, Array.replicate_zero, List.push_toArray, List.append_toArray, List.nil_append, List.cons_append]
  gi_wp2_with (first
    | (gi_at_call 60; refine (maps_Keys _ _).mono ?_; rintro e w' ⟨rfl, rfl⟩)
    | (gi_at_call 59; refine (sorted_Keys b nn D0 _ w HO.out hmax hbytes).mono ?_; rintro e w' ⟨v, ss, rfl, hS, hrow, hnil, hb⟩))
  go_ret
  have e1 := HL.out ss hS
  have e2 : ss.length = ys.length := (hS.trans HP.out).length_eq
  rw [e1, e2] at hrow
  have hb2 : Below w.heap.size w w' := ((Below.refl _ w).alloc (Nat.le_refl _) _).trans (hb.mono (by simp))
  refine ⟨v, rfl, ?_, hb2⟩
  exact StrsW.of_ownsRow (ownsRow_base_a hrow (by simp))
end Go.Proofs.Ytjakelpdnmnofaa
