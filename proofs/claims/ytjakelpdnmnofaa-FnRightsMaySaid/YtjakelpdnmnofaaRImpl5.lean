/- What the program's RightsDrop answers. -/
import Derived.Test.YtjakelpdnmnofaaRImpl4
import Derived.Shelf.SlMaps.DeleteFunc
namespace Go.Proofs.Ytjakelpdnmnofaa
open Go.ChangeShapes Go.WideShapes Go.ChangeAt Go.RowKit Go.Maps Go.Shelf
set_option linter.unusedVariables false

theorem closure_any (w : World) (x s : Bs) (v : Value) (sb : Nat) (hx : x.length ≤ maxLen) (hs : s.length ≤ maxLen) (hc : w.cell? ⟨sb, 0, none⟩ = some (.string ⟨s.toArray⟩)) :
    Calls Try.prog 53 (#[.string ⟨x.toArray⟩, v] ++ #[.pointer (some ⟨sb, 0, none⟩)]) w (Says (cov s x) w) := by
  have HC := Lib.hid (fun w => hasPrefix_any w s x hs hx)
  obtain ⟨r, hr⟩ : ∃ r, r = cov s x := ⟨_, rfl⟩
  rw [← hr] at HC ⊢
  clear hr
  go_enter Try.func53, Try.ntmps53
  go_wp2_with fail
  refine (HC.out w).mono ?_
  rintro e w' ⟨rfl, rfl⟩
  go_wp2_with fail
  go_ret
  exact ⟨rfl, rfl⟩
/-- what the closure says, of a key as it reads -/
def pdS (s : Bs) (kl : Lit) (d : DataW Unit) : Bool := match kl with | .string x => cov s x | _ => false
theorem delete_any (w : World) (b : Nat) (xs : List Bs) (s : Bs) (sb : Nat) (h : SetAt w b xs) (hs : s.length ≤ maxLen) (hc : w.cell? ⟨sb, 0, none⟩ = some (.string ⟨s.toArray⟩)) (hne : sb ≠ b) :
    Calls Try.prog 52 #[.map (some b), .func (.func 53) #[] #[.pointer (some ⟨sb, 0, none⟩)]] w fun e w' => e = .returned (.tuple #[]) ∧ SetAt w' b (drop0 xs s) ∧ w.grownBy w' (some b) := by
  obtain ⟨n, D, hn, ho, hsi⟩ := h
  have eg : ∀ args w, (callFunc 53 args).run Try.prog w = .ok (.enter 53 args) w := enters_of Try.func53 (by kernel_rfl) rfl
  have hcon := AnyDf.maps_DeleteFunc layDel keyS (plainElem Try.prog 4) (pdS s) 53 #[.pointer (some ⟨sb, 0, none⟩)] b n D w eg ho (fun W key val kl yd yp hgW hkey hv => by
    obtain ⟨x, rfl, rfl, hx⟩ := Maps.keyOf_str Try.underlying9 hkey
    have hcW := hgW.cell hc (fun e => hne (Option.some.inj e))
    exact (closure_any W x s val sb hx hs hcW).mono fun _ _ ⟨he, hw⟩ => ⟨he, hw ▸ World.grownBy.refl _ _⟩)
  exact hcon.mono fun e w' ⟨h1, h2, h3⟩ => ⟨h1, ⟨n, _, hn, h2, hsi.del (pdS s) (fun x => cov s x) (fun _ => rfl)⟩, h3⟩
theorem irdrop_any : IRDrop := by
  intro w v xs s h hs hg
  have HC := Lib.hid (fun w' hb => setOf_any w' v xs (Strs.below h hb) hs)
  have HV := Lib.hid (fun w => irv_any w s hg)
  have HSX := Lib.hid (short_max hg)
  clear h
  unfold SetOf at HC
  go_enter Try.func34, Try.ntmps34
  go_wp2_with fail
  obtain ⟨W0, hW0⟩ : ∃ W0, W0 = w.alloc (.cells #[.string ⟨s.toArray⟩] 9) := ⟨_, rfl⟩
  rw [← hW0]
  have HB0 : Hid (Below w.heap.size w W0) := Lib.hid (by rw [hW0]; exact (Below.refl _ _).alloc (Nat.le_refl _) _)
  have HBX : Hid (W0.cell? ⟨w.heap.size, 0, none⟩ = some (.string ⟨s.toArray⟩)) := Lib.hid (by rw [hW0]; exact new_cell rfl)
  have HSZ : Hid (w.heap.size < W0.heap.size) := Lib.hid (by rw [hW0]; simp)
  clear hW0
  refine (HC.out W0 HB0.out).mono ?_
  rintro e w1 ⟨hb1, m, rfl, hm⟩
  have B1 := Lib.hid (HB0.out.trans (hb1.mono HB0.out.size))
  have hx1 := (hb1.cell (p := ⟨w.heap.size, 0, none⟩) HSZ.out).trans HBX.out
  have HM := Lib.hid hm
  clear hb1 hm HC HBX
  cases hx : rvs xs with
  | false =>
    have HR : Hid (rdrop xs s = []) := Lib.hid (if_neg (by rw [hx]; simp))
    clear hx
    go_wp2_with fail
    go_ret
    exact ⟨.slice none 0 0, rfl, by rw [HR.out]; exact strsW_none, B1.out⟩
  | true =>
    obtain ⟨b, rfl, hb0, hset⟩ := HM.out hx
    have HSET := Lib.hid hset
    have HNE : Hid (w.heap.size ≠ b) := Lib.hid (by have := HSZ.out; omega)
    have HBW : Hid (w.heap.size ≤ b) := Lib.hid (by have := HSZ.out; omega)
    have HX := Lib.hid hx
    clear hx hb0 hset HM
    go_wp2_with fail
    refine (HV.out w1).mono ?_
    rintro e w2 ⟨rfl, hb2⟩
    have B2 := Lib.hid (B1.out.trans (hb2.mono B1.out.size))
    have HS2 := Lib.hid (HSET.out.below hb2)
    have hx2 := (hb2.cell (p := ⟨w.heap.size, 0, none⟩) (cell_lt hx1)).trans hx1
    clear hb2 HSET hx1
    cases hy : rv s with
    | false =>
      have HR : Hid (rdrop xs s = []) := Lib.hid (if_neg (by rw [hy]; simp))
      clear hy
      go_wp2_with fail
      go_ret
      exact ⟨.slice none 0 0, rfl, by rw [HR.out]; exact strsW_none, B2.out⟩
    | true =>
      have HR : Hid (rdrop xs s = drop0 xs s) := Lib.hid (if_pos (by rw [hy, HX.out]; rfl))
      clear hy
      have HD := Lib.hid (delete_any w2 b xs s w.heap.size HS2.out HSX.out hx2 HNE.out)
      go_wp2_with fail
      refine HD.out.mono ?_
      rintro e w3 ⟨rfl, hs3, hg3⟩
      have B3 := Lib.hid (B2.out.grown hg3 B2.out.size (fun j hj => by cases hj; exact HBW.out))
      have HL := Lib.hid (setList_any w3 b _ (drop0 xs s) hs3 (List.Perm.refl _) ((rvs_asc HX.out).sublist (List.filter_sublist)) (by have := rvs_len HX.out; have := drop_len xs s; omega))
      clear hs3 hg3 hx2
      go_wp2_with fail
      refine HL.out.mono ?_
      rintro e w4 ⟨v4, rfl, hr4, hb4⟩
      have HN4 := Lib.hid (newS_list hr4 hb4 B3.out)
      clear hr4 hb4
      go_wp2_with fail
      go_ret
      exact ⟨v4, rfl, by rw [HR.out]; exact HN4.out.1, HN4.out.2⟩
end Go.Proofs.Ytjakelpdnmnofaa
