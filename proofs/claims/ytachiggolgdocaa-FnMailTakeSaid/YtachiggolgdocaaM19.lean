/- What the proofs stand on, part 19. -/
import Derived.Test.YtachiggolgdocaaRows
import Derived.Test.YtachiggolgdocaaM1
import Derived.Test.YtachiggolgdocaaM2
import Derived.Test.YtachiggolgdocaaM3
import Derived.Test.YtachiggolgdocaaM4
import Derived.Test.YtachiggolgdocaaM5
import Derived.Test.YtachiggolgdocaaM6
import Derived.Test.YtachiggolgdocaaM7
import Derived.Test.YtachiggolgdocaaM8
import Derived.Test.YtachiggolgdocaaM9
import Derived.Test.YtachiggolgdocaaM11
import Derived.Test.YtachiggolgdocaaM13
import Derived.Test.YtachiggolgdocaaM15
set_option linter.unusedSimpArgs false
set_option linter.unusedVariables false
namespace Go.Proofs.Ytachiggolgdocaa
open Go.ChangeShapes Go.WideShapes Go.ChangeAt Go.RowKit
set_option linter.unusedVariables false
section
variable {P : Program}
theorem results_cell_mid {fn : Func} {p u : Tmp} {ty : TypeId} (h : fn.results = #[.cell p ty, .tmp u]) (tmps : Array Value) (w : World) (b o : Nat) (cs : List Value) (d : TypeDesc)
    (hp : tmps.getD p undef = .pointer (some ⟨b, o, none⟩)) (hc : w.rangeAt b o cs)
    (hu : P.underlying ty = some d) (hd : d.isRow = true) (hi : (P.info? ty).map (·.size) = some cs.length) :
    (results fn tmps).run P w = .ok (.tuple #[.agg cs.toArray, tmps.getD u undef]) w := by
  rw [results_cell_tmp h, hp]
  simp only [asAddr, Sem.run_pure, Result.andThen_ok, run_loadVar_mid w b o ty cs d hc hu hd hi]
end
theorem range_row {w : World} {b : Nat} {C : Array Value} {t : TypeId} {fr : Nat × Nat} (hb : w.heap[b]? = some (.cells C t fr)) : w.rangeAt b 0 C.toList := fun j v hv => by
  rw [cell_of_row w b (0 + j) C t fr hb, Nat.zero_add]
  simpa using hv
end Go.Proofs.Ytachiggolgdocaa
namespace Go.Proofs.Ytachiggolgdocaa
set_option linter.unusedVariables false
def mfor (e : Int) (x : IV) : Bool := decide (x.g = e)
def mix (xs : List IV) (e : Int) : Nat := xs.findIdx (mfor e)
def mgot (xs : List IV) (e : Int) : Bool := msok xs && decide (mix xs e < xs.length)
def mrest (xs : List IV) (e : Int) : List IV := if msok xs = true then xs.eraseIdx (mix xs e) else []
def mtaken (xs : List IV) (e : Int) : IV := if mgot xs e = true then xs.getD (mix xs e) iz else iz
theorem mix_le (xs : List IV) (e : Int) : mix xs e ≤ xs.length := List.findIdx_le_length
theorem mix_at {xs : List IV} {e : Int} (h : mix xs e < xs.length) : (xs.getD (mix xs e) iz).g = e := by
  have := List.findIdx_getElem (xs := xs) (p := mfor e) (w := h)
  rw [getD_lt h]
  exact of_decide_eq_true this
theorem mix_before {xs : List IV} {e : Int} {i : Nat} (h : i < mix xs e) : (xs.getD i iz).g ≠ e := by
  have hl : i < xs.length := Nat.lt_of_lt_of_le h (mix_le xs e)
  have := List.not_of_lt_findIdx h
  rw [getD_lt hl]
  intro hh
  rw [mfor, decide_eq_true hh] at this
  exact Bool.noConfusion this
theorem mix_first {xs : List IV} {e : Int} {k : Nat} (hk : k < xs.length) (hb : ∀ i, i < k → (xs.getD i iz).g ≠ e) (he : (xs.getD k iz).g = e) : mix xs e = k := by
  have h1 : ¬ mix xs e < k := fun h => hb _ h (mix_at (Nat.lt_trans h hk))
  have h2 : ¬ k < mix xs e := fun h => mix_before h he
  omega
theorem mix_none {xs : List IV} {e : Int} (hb : ∀ i, i < xs.length → (xs.getD i iz).g ≠ e) : mix xs e = xs.length := by
  have h1 : ¬ mix xs e < xs.length := fun h => hb _ h (mix_at h)
  have := mix_le xs e
  omega
end Go.Proofs.Ytachiggolgdocaa
namespace Go.Proofs.Ytachiggolgdocaa
open Go.ChangeShapes Go.WideShapes Go.ChangeAt Go.RowKit
set_option linter.unusedVariables false
theorem results_scs {P : Program} {fn : Func} {p u v : Tmp} {ty : TypeId} (h : fn.results = #[.tmp u, .cell p ty, .tmp v]) (tmps : Array Value) (w : World) (b o : Nat) (cs : List Value) (d : TypeDesc)
    (hp : tmps.getD p undef = .pointer (some ⟨b, o, none⟩)) (hc : w.rangeAt b o cs) (hu : P.underlying ty = some d) (hd : d.isRow = true) (hi : (P.info? ty).map (·.size) = some cs.length) :
    (results fn tmps).run P w = .ok (.tuple #[tmps[u]?.getD undef, .agg cs.toArray, tmps[v]?.getD undef]) w := by
  have hp' : tmps[p]?.getD undef = .pointer (some ⟨b, o, none⟩) := by simpa using hp
  simp [results, h, hp', asAddr, run_loadVar_mid w b o ty cs d hc hu hd hi]
def NewVMB (ys : List IV) (x : IV) (b : Bool) (w : World) (e : Ending) (w' : World) : Prop := ∃ v, e = .returned (.tuple #[v, ivV x, .bool b]) ∧ IsW w' w.heap.size w'.heap.size v ys ∧ Below w.heap.size w w'
set_option maxRecDepth 100000 in
set_option maxHeartbeats 2000000 in
theorem sMailTake_any (w : World) (v : Value) (xs : List IV) (t : Int) (h : Is w v xs) (hn : NilOkI v) :
    Calls Try.prog 23 #[v, .int .i64 t] w (NewVMB (mrest xs t) (mtaken xs t) (mgot xs t) w) := by
  have HNIL := Lib.hid hn
  have HV := Lib.hid (fun w h => sMailsValid_any w v xs h)
  have H := Lib.hid h
  clear h hn
  obtain ⟨ys, hys⟩ : ∃ ys, ys = mrest xs t := ⟨_, rfl⟩
  obtain ⟨b, hb⟩ : ∃ b, b = mgot xs t := ⟨_, rfl⟩
  obtain ⟨x, hx⟩ : ∃ x, x = mtaken xs t := ⟨_, rfl⟩
  rw [← hys, ← hb, ← hx]
  have HYS := Lib.hid hys
  have HBB := Lib.hid hb
  have HXX := Lib.hid hx
  clear hys hb hx
  obtain ⟨w0, hw0⟩ : ∃ w0, w0 = w.alloc (.cells #[.int .i64 0, .int .i64 0, .int .i64 0] 25) := ⟨_, rfl⟩
  have HW0 := Lib.hid hw0
  have HR0 : Hid (w0.there w.heap.size 0 3) := Lib.hid (by rw [hw0]; exact there_row (heap_alloc_new w _) (by simp))
  have HB0 : Hid (Below w.heap.size w w0) := Lib.hid (by rw [hw0]; exact (Below.refl _ _).alloc (Nat.le_refl _) _)
  have HL0 : Hid (w.heap.size < w0.heap.size) := Lib.hid (by rw [hw0]; simp)
  clear hw0
  cases h1 : msok xs with
  | false =>
    have HR : Hid (ys = [] ∧ b = false ∧ x = iz) := Lib.hid (by rw [HYS.out, HBB.out, HXX.out, mrest, mtaken, mgot, h1]; exact ⟨rfl, rfl, rfl⟩)
    rw [h1] at HV
    clear h1
    rw [HR.out.1, HR.out.2.1, HR.out.2.2]
    go_enter Try.func23, Try.ntmps23
    go_wp2_with fail
    rw [← HW0.out]
    refine (HV.out _ (H.out.below HB0.out)).mono ?_
    rintro e w1 ⟨rfl, hb1⟩
    have B1 := Lib.hid (HB0.out.trans (hb1.mono HB0.out.size))
    have HR1 : Hid ((w1.alloc (.cells #[] 25)).there w.heap.size 0 3) := Lib.hid (there_blocks (there_blocks HR0.out (hb1.block _ HL0.out)) (Below.heap_alloc _ _ _ (Nat.lt_of_lt_of_le HL0.out hb1.size)))
    have HL1 : Hid (w.heap.size < w1.heap.size) := Lib.hid (Nat.lt_of_lt_of_le HL0.out hb1.size)
    clear hb1
    go_wp2_with ((with_reducible refine store_is 25 (.tmp 5) (.tmp 12) ?_); refine store_arr 25 (.tmp 5) (.tmp 12) w.heap.size 0 #[.int .i64 0, .int .i64 0, .int .i64 0] rfl rfl HR1.out info_iv (by simp [Value.oneCell']) ?_)
    refine bodyPost_ret (results_scs rfl _ _ w.heap.size 0 [.int .i64 0, .int .i64 0, .int .i64 0] _ rfl (World.rangeAt_setCells_same _ _ _ _ HR1.out) Try.underlying25 rfl (by kernel_rfl)) rfl ?_
    exact ⟨_, rfl, (IsW.of_ownsRow (OwnV.start w1).own).out_box HL1.out |>.wide B1.out.size (Nat.le_of_eq (size_setCells _ _ _ _).symm), Below.setCells (Below.refl _ _) _ (Nat.le_refl _) _ _ _ (B1.out.trans ((OwnV.start w1).bel.mono B1.out.size))⟩
  | true =>
    have HOK := Lib.hid h1
    rw [h1] at HV
    clear h1
    have hl8 := msok_len HOK.out
    obtain ⟨n, hnn⟩ : ∃ n, n = xs.length := ⟨_, rfl⟩
    have HN := Lib.hid hnn
    have HGET : Hid (∀ k, k < n → (∀ i, i < k → (xs.getD i iz).g ≠ t) → (xs.getD k iz).g = t → ys = xs.take k ++ xs.drop (k + 1) ∧ x = xs.getD k iz ∧ b = true) := Lib.hid (fun k hk hb he => by
      have hm := mix_first (by rw [← hnn]; exact hk) hb he
      have hg : mgot xs t = true := by rw [mgot, HOK.out, hm, decide_eq_true (by rw [← hnn]; exact hk)]; rfl
      refine ⟨?_, ?_, ?_⟩
      · rw [HYS.out, mrest, if_pos HOK.out, hm, List.eraseIdx_eq_take_drop_succ]
      · rw [HXX.out, mtaken, if_pos hg, hm]
      · rw [HBB.out, hg])
    have HNONE : Hid ((∀ i, i < n → (xs.getD i iz).g ≠ t) → ys = xs ∧ x = iz ∧ b = false) := Lib.hid (fun hb => by
      have hm := mix_none (xs := xs) (e := t) (by rw [← hnn]; exact hb)
      have hg : mgot xs t = false := by rw [mgot, HOK.out, hm, decide_eq_false (Nat.lt_irrefl _)]; rfl
      refine ⟨?_, ?_, ?_⟩
      · rw [HYS.out, mrest, if_pos HOK.out, hm, List.eraseIdx_of_length_le (Nat.le_refl _)]
      · rw [HXX.out, mtaken, if_neg (by rw [hg]; exact Bool.noConfusion)]
      · rw [HBB.out, hg])
    clear HYS HBB HXX
    obtain ⟨a, ca, rfl, hla, hma, hxa⟩ := H.out
    rw [← hnn] at hla hl8 HV H HNIL hxa ⊢
    unfold maxLen at hma
    have HX := Lib.hid hxa
    clear hnn hxa
    go_enter Try.func23, Try.ntmps23
    go_wp2_with fail
    rw [← HW0.out]
    refine (HV.out _ (H.out.below HB0.out)).mono ?_
    rintro e w1 ⟨rfl, hb1⟩
    have B1 := Lib.hid (HB0.out.trans (hb1.mono HB0.out.size))
    have HR1 : Hid (w1.there w.heap.size 0 3) := Lib.hid (there_blocks HR0.out (hb1.block _ HL0.out))
    have HL1 : Hid (w.heap.size < w1.heap.size) := Lib.hid (Nat.lt_of_lt_of_le HL0.out hb1.size)
    have H1 := Lib.hid (H.out.below B1.out)
    clear hb1 HB0 HL0 HR0 HW0
    go_wp2
    go_loopw [7] (fun i wr => ∃ k : Nat, k ≤ n ∧ i = .int .i64 k ∧ Hid (∀ i, i < k → (xs.getD i iz).g ≠ t) ∧ wr = w1) (fun i _ => n - (intOf i).toNat)
    case atStart => exact ⟨0, Nat.zero_le _, rfl, Lib.hid (fun i hi => by omega), by first | trivial | rfl⟩
    case round =>
      obtain ⟨k, hk, rfl, HBF, rfl⟩ := hrel
      by_cases hlt : k < n
      · obtain ⟨bg, o, rfl, hc⟩ := HX.out k hlt
        have T1 := Lib.hid (hc.below B1.out hc.lt)
        have HBG := Lib.hid hc.lt
        obtain ⟨c0, c1, c2⟩ := T1.out
        obtain ⟨y, hy⟩ : ∃ y, y = xs.getD k iz := ⟨_, rfl⟩
        rw [← hy] at c0 c1 c2 T1
        have HYK := Lib.hid hy
        have hlt' : (k : Int) < (n : Int) := by omega
        clear hc hy
        by_cases he : y.g = t
        · have he' : (y.g == t) = true := by simpa using he
          have HG := Lib.hid (HGET.out k hlt HBF.out (by rw [← HYK.out]; exact he))
          have hk1 : k + 1 ≤ n := by omega
          have hc3 : (n : Int) ≤ (ca : Int) := by omega
          have hc4 : (k : Int) ≤ (ca : Int) := by omega
          have hc5 : (k : Int) + 1 ≤ (ca : Int) := by omega
          have hc6 : (ca : Int) ≤ 9223372036854775807 := by omega
          have hc7 : (k : Int) + 1 ≤ (n : Int) := by omega
          have hck : ¬ ca = k := by omega
          obtain ⟨q0, hq0⟩ : ∃ q0, q0 = if ca = k + 1 then o else o + (k + 1) * 3 := ⟨_, rfl⟩
          have HQ0 := Lib.hid hq0
          have HT := Lib.hid (H1.out.take (k := k) (by omega))
          have HD := Lib.hid (H1.out.drop (k := k + 1) (q := q0) hk1 hq0)
          have HG2 : Hid (x = y) := Lib.hid (by rw [HG.out.2.1, HYK.out])
          clear hq0 he
          obtain ⟨yk, yg, yr⟩ := y
          go_wp2_with fail
          refine wp_region_held_drew (S := fun w' => Tri w' bg (o + k * 3) ⟨yk, yg, yr⟩) (by kernel_rfl) (T1.out.below (Below.refl _ _).drew T1.out.lt) (fun hHeld => ?_)
          refine anyH_gen _ (fun AZ hgen => ?_)
          have HBZ := Lib.hid (by rw [hgen]; exact (Below.refl _ _).drew : Below wr.heap.size wr AZ)
          rw [← hgen] at hHeld
          clear hgen
          refine wpAnyH_take (i := 1) (oi := { dst := some 27, op := .move (.tmp 0), type := _, pos := _, after := _, guard := none }) (v := .slice (some ⟨bg, o, none⟩) n ca) rfl (by kernel_rfl) (by kernel_rfl) (by kernel_rfl) (fun _ _ _ h => h) (Or.inl ⟨by rfl, fun wh hSw => ?_⟩) hHeld ?_
          · go_simp
          try simp only [Act.put, List.setIfInBounds_toArray, List.set_cons_zero, List.set_cons_succ]
          refine wpAnyH_take (i := 2) (oi := { dst := some 28, op := .move (.tmp 7), type := _, pos := _, after := _, guard := none }) (v := .int .i64 (k : Int)) rfl (by kernel_rfl) (by kernel_rfl) (by kernel_rfl) (fun _ _ _ h => h) (Or.inl ⟨by rfl, fun wh hSw => ?_⟩) hHeld ?_
          · go_simp
          try simp only [Act.put, List.setIfInBounds_toArray, List.set_cons_zero, List.set_cons_succ]
          refine wpAnyH_take (i := 3) (oi := { dst := some 29, op := .slice 23 (.tmp 27) none (some (.tmp 28)) none, type := _, pos := _, after := _, guard := none }) (v := .slice (some ⟨bg, o, none⟩) k ca) rfl (by kernel_rfl) (by kernel_rfl) (by kernel_rfl) (fun _ _ _ h => h) (Or.inl ⟨by rfl, fun wh hSw => ?_⟩) hHeld ?_
          · (go_simp; try (intro hh; omega))
          try simp only [Act.put, List.setIfInBounds_toArray, List.set_cons_zero, List.set_cons_succ]
          refine wpAnyH_take (i := 5) (oi := { dst := some 31, op := .move (.tmp 0), type := _, pos := _, after := _, guard := none }) (v := .slice (some ⟨bg, o, none⟩) n ca) rfl (by kernel_rfl) (by kernel_rfl) (by kernel_rfl) (fun _ _ _ h => h) (Or.inl ⟨by rfl, fun wh hSw => ?_⟩) hHeld ?_
          · go_simp
          try simp only [Act.put, List.setIfInBounds_toArray, List.set_cons_zero, List.set_cons_succ]
          refine wpAnyH_take (i := 6) (oi := { dst := some 32, op := .move (.tmp 7), type := _, pos := _, after := _, guard := none }) (v := .int .i64 (k : Int)) rfl (by kernel_rfl) (by kernel_rfl) (by kernel_rfl) (fun _ _ _ h => h) (Or.inl ⟨by rfl, fun wh hSw => ?_⟩) hHeld ?_
          · go_simp
          try simp only [Act.put, List.setIfInBounds_toArray, List.set_cons_zero, List.set_cons_succ]
          refine wpAnyH_take (i := 7) (oi := { dst := some 33, op := .binOp .add 3 (.tmp 32) (.const (.int .i64 1)) 3, type := _, pos := _, after := _, guard := none }) (v := .int .i64 ((k : Int) + 1)) rfl (by kernel_rfl) (by kernel_rfl) (by kernel_rfl) (fun _ _ _ h => h) (Or.inl ⟨by rfl, fun wh hSw => ?_⟩) hHeld ?_
          · (go_simp; rw [IntKind.wrap_i64]; omega)
          try simp only [Act.put, List.setIfInBounds_toArray, List.set_cons_zero, List.set_cons_succ]
          refine wpAnyH_take (i := 8) (oi := { dst := some 34, op := .slice 23 (.tmp 31) (some (.tmp 33)) none none, type := _, pos := _, after := _, guard := none }) (v := .slice (some ⟨bg, q0, none⟩) (n - (k + 1)) (ca - (k + 1))) rfl (by kernel_rfl) (by kernel_rfl) (by kernel_rfl) (fun _ _ _ h => h) (Or.inl ⟨by rfl, fun wh hSw => ?_⟩) hHeld ?_
          · (go_simp; rw [HQ0.out]; by_cases hce : ca = k + 1 <;> (simp [hce]; try (intro hh; omega)))
          try simp only [Act.put, List.setIfInBounds_toArray, List.set_cons_zero, List.set_cons_succ]
          refine wpAnyH_take (i := 10) (oi := { dst := some 36, op := .move (.tmp 0), type := _, pos := _, after := _, guard := none }) (v := .slice (some ⟨bg, o, none⟩) n ca) rfl (by kernel_rfl) (by kernel_rfl) (by kernel_rfl) (fun _ _ _ h => h) (Or.inl ⟨by rfl, fun wh hSw => ?_⟩) hHeld ?_
          · go_simp
          try simp only [Act.put, List.setIfInBounds_toArray, List.set_cons_zero, List.set_cons_succ]
          refine wpAnyH_take (i := 11) (oi := { dst := some 37, op := .move (.tmp 7), type := _, pos := _, after := _, guard := none }) (v := .int .i64 (k : Int)) rfl (by kernel_rfl) (by kernel_rfl) (by kernel_rfl) (fun _ _ _ h => h) (Or.inl ⟨by rfl, fun wh hSw => ?_⟩) hHeld ?_
          · go_simp
          try simp only [Act.put, List.setIfInBounds_toArray, List.set_cons_zero, List.set_cons_succ]
          refine wpAnyH_take (i := 12) (oi := { dst := some 38, op := .indexAddr 23 (.tmp 36) (.tmp 37), type := _, pos := _, after := _, guard := none }) (v := .pointer (some ⟨bg, o + k * 3, none⟩)) rfl (by kernel_rfl) (by kernel_rfl) (by kernel_rfl) (fun _ _ _ h => h) (Or.inl ⟨by rfl, fun wh hSw => ?_⟩) hHeld ?_
          · go_simp
          try simp only [Act.put, List.setIfInBounds_toArray, List.set_cons_zero, List.set_cons_succ]
          refine wpAnyH_take (i := 13) (oi := { dst := some 39, op := .load 25 (.tmp 38), type := _, pos := _, after := _, guard := none }) (v := .agg #[.int .i64 yk, .int .i64 yg, .int .i64 yr]) rfl (by kernel_rfl) (by kernel_rfl) (by kernel_rfl) (fun _ _ _ h => h) (Or.inl ⟨by rfl, fun wh hSw => ?_⟩) hHeld ?_
          · (obtain ⟨d0, d1, d2⟩ := hSw; go_simp)
          try simp only [Act.put, List.setIfInBounds_toArray, List.set_cons_zero, List.set_cons_succ]
          refine wpAnyH_ready (rs := [0]) (by kernel_rfl) (by simp) ?_
          refine AllReadyH.cons (o := { dst := some 26, op := .buildSlice 23 0 #[], type := _, pos := _, after := _, guard := none }) rfl (fun K hK => ?_) AllReadyH.nil
          go_simp
          refine hK.out _ _ ?_ (fun hHeld => ?_)
          · exact T1.out.below (HBZ.out.alloc HBZ.out.size _) T1.out.lt
          clear hK K
          try simp only [Act.put, List.setIfInBounds_toArray, List.set_cons_zero, List.set_cons_succ]
          refine anyH_gen _ (fun A1 hgen => ?_)
          have HB1 : Hid (Below wr.heap.size wr A1) := Lib.hid (by rw [hgen]; exact HBZ.out.alloc HBZ.out.size _)
          have HO1 : Hid (OwnV wr (.slice (some ⟨AZ.heap.size, 0, none⟩) 0 0) [] A1) := Lib.hid (by rw [hgen]; exact (OwnV.start AZ).from HBZ.out)
          clear hgen
          refine wpAnyH_ready (rs := [4]) (by kernel_rfl) (by simp) ?_
          refine AllReadyH.cons (o := { dst := some 30, op := .call { callee := .builtin .append, args := #[.tmp 26, .tmp 29], argTypes := #[23, 23] }, type := _, pos := _, after := _, guard := none }) rfl (fun K hK => ?_) AllReadyH.nil
          rw [if_pos (by rfl)]
          refine wp_append_is (.tmp 26) (.tmp 29) wr (.slice (some ⟨AZ.heap.size, 0, none⟩) 0 0) [] rfl HO1.out _ (xs.take k) rfl (HT.out.below HB1.out) nilOkI_some (by simp only [List.length_nil, List.length_take]; have := HN.out; omega) ?_
          intro v2 A2 hown hnn hg
          have HO2 := Lib.hid hown
          clear hown hnn hg
          refine hK.out _ _ ?_ (fun hHeld => ?_)
          · exact T1.out.below HO2.out.bel T1.out.lt
          clear hK K
          try simp only [Act.put, List.setIfInBounds_toArray, List.set_cons_zero, List.set_cons_succ]
          refine wpAnyH_ready (rs := [9]) (by kernel_rfl) (by simp) ?_
          refine AllReadyH.cons (o := { dst := some 35, op := .call { callee := .builtin .append, args := #[.tmp 30, .tmp 34], argTypes := #[23, 23] }, type := _, pos := _, after := _, guard := none }) rfl (fun K hK => ?_) AllReadyH.nil
          rw [if_pos (by rfl)]
          refine wp_append_is (.tmp 30) (.tmp 34) wr v2 ([] ++ xs.take k) rfl HO2.out _ (xs.drop (k + 1)) rfl (HD.out.below HO2.out.bel) nilOkI_some (by simp only [List.nil_append, List.length_take, List.length_drop]; have := HN.out; omega) ?_
          intro v3 A3 hown hnn hg
          have HO3 := Lib.hid hown
          clear hown hnn hg
          refine hK.out _ _ ?_ (fun hHeld => ?_)
          · exact T1.out.below HO3.out.bel T1.out.lt
          clear hK K
          try simp only [Act.put, List.setIfInBounds_toArray, List.set_cons_zero, List.set_cons_succ]
          have HR3 : Hid (A3.there w.heap.size 0 3) := Lib.hid (there_blocks HR1.out (HO3.out.bel.block _ HL1.out))
          refine wpAnyH_take (i := 14) (oi := { dst := some 4, op := .assign (.tmp 35), type := _, pos := _, after := _, guard := none }) (v := v3) rfl (by kernel_rfl) (by kernel_rfl) (by kernel_rfl) (fun _ _ _ h => h) (Or.inl ⟨by rfl, fun wh hSw => ?_⟩) hHeld ?_
          · go_simp
          try simp only [Act.put, List.setIfInBounds_toArray, List.set_cons_zero, List.set_cons_succ]
          refine wpAnyH_ready (rs := [15]) (by kernel_rfl) (by simp) ?_
          refine AllReadyH.cons (o := { dst := none, op := .store 25 (.tmp 5) (.tmp 39), type := _, pos := _, after := _, guard := none }) rfl (fun K hK => ?_) AllReadyH.nil
          rw [if_pos (by rfl)]
          refine wp_store_mid 25 (.tmp 5) (.tmp 39) rfl w.heap.size 0 #[.int .i64 yk, .int .i64 yg, .int .i64 yr] rfl rfl HR3.out info_iv (ivBits ⟨yk, yg, yr⟩) ?_
          refine hK.out _ _ ?_ (fun hHeld => ?_)
          · exact (T1.out.below HO3.out.bel T1.out.lt).block (heap_setCells_other wr _ _ _ A3 _ (Nat.ne_of_lt HBG.out))
          clear hK K
          try simp only [Act.put]
          refine wpAnyH_take (i := 16) (oi := { dst := some 6, op := .assign (.const (.bool true)), type := _, pos := _, after := _, guard := none }) (v := .bool true) rfl (by kernel_rfl) (by kernel_rfl) (by kernel_rfl) (fun _ _ _ h => h) (Or.inl ⟨by rfl, fun wh hSw => ?_⟩) hHeld ?_
          · go_simp
          try simp only [Act.put, List.setIfInBounds_toArray, List.set_cons_zero, List.set_cons_succ]
          refine wpAnyH_done (by kernel_rfl) ?_ _
          go_wp2_with fail
          refine bodyPost_ret (results_scs rfl _ _ w.heap.size 0 [.int .i64 yk, .int .i64 yg, .int .i64 yr] _ rfl (World.rangeAt_setCells_same _ _ _ _ HR3.out) Try.underlying25 rfl (by kernel_rfl)) rfl ?_
          exact ⟨v3, by rw [HG2.out, HG.out.2.2]; rfl, by rw [HG.out.1]; have := HO3.out.row; rw [List.nil_append] at this; exact (this.out_box HL1.out).wide B1.out.size (Nat.le_of_eq (size_setCells _ _ _ _).symm), Below.setCells (Below.refl _ _) _ (Nat.le_refl _) _ _ _ (B1.out.trans (HO3.out.bel.mono B1.out.size))⟩
        · have he' : (y.g == t) = false := by simpa using he
          go_wp2
          go_roundw
          case rel => exact ⟨k + 1, by omega, by go_num, Lib.hid (fun i hi => by
            by_cases h : i = k
            · rw [h, ← HYK.out]; exact he
            · exact HBF.out i (by omega)), by first | trivial | rfl⟩
          case measure => simp [intOf]; omega
      · have e : k = n := by omega
        subst e
        have HG := Lib.hid (HNONE.out HBF.out)
        go_wp2_with (first | (at_builtin; refine wpList_append_is (.tmp 40) (.tmp 41) wr _ [] rfl (OwnV.start wr) _ xs rfl (H1.out.below (OwnV.start wr).bel) HNIL.out (by simp only [List.length_nil]; have := HN.out; omega) ?_; intro v3 w3 hown hnn hg; have HO := Lib.hid hown; have HR3 : Hid (w3.there w.heap.size 0 3) := Lib.hid (there_blocks HR1.out (hown.bel.block _ HL1.out)); clear hown hnn hg) | ((with_reducible refine store_is 25 (.tmp 5) (.tmp 43) ?_); refine store_arr 25 (.tmp 5) (.tmp 43) w.heap.size 0 #[.int .i64 0, .int .i64 0, .int .i64 0] rfl rfl HR3.out info_iv (by simp [Value.oneCell']) ?_))
        rw [List.nil_append] at HO
        refine bodyPost_ret (results_scs rfl _ _ w.heap.size 0 [.int .i64 0, .int .i64 0, .int .i64 0] _ rfl (World.rangeAt_setCells_same _ _ _ _ HR3.out) Try.underlying25 rfl (by kernel_rfl)) rfl ?_
        exact ⟨v3, by rw [HG.out.2.1, HG.out.2.2]; rfl, by rw [HG.out.1]; exact (HO.out.row.out_box HL1.out).wide B1.out.size (Nat.le_of_eq (size_setCells _ _ _ _).symm), Below.setCells (Below.refl _ _) _ (Nat.le_refl _) _ _ _ (B1.out.trans (HO.out.bel.mono B1.out.size))⟩
end Go.Proofs.Ytachiggolgdocaa
namespace Go.Proofs.Ytachiggolgdocaa
open Go.ChangeShapes Go.WideShapes Go.ChangeAt Go.RowKit
set_option linter.unusedVariables false
theorem QS.tail {E : Nat → Prop} {Q g p q n cap : Nat} {w : World} {x : IV} {xs : List IV} (h : QS E Q w (.slice (some ⟨g, p, none⟩) n cap) (x :: xs)) (hq : q = if cap = 1 then p else p + 3) : QS E Q w (.slice (some ⟨g, q, none⟩) (n - 1) (cap - 1)) xs := by
  obtain ⟨a, c, e, h1, h2, h3⟩ := h
  injection e with e1 e2 e3
  subst e1
  subst e3
  have hn : n = xs.length + 1 := e2
  rw [List.length_cons] at h1
  refine ⟨_, cap - 1, by rw [hn]; rfl, by omega, by omega, fun i hi => ?_⟩
  obtain ⟨g', p', e, hg, hth, ht⟩ := h3 (i + 1) (by omega)
  cases e
  rw [if_neg (by omega)] at hq
  have hp : p + (i + 1) * 3 = q + i * 3 := by omega
  rw [hp] at hth ht
  exact ⟨g, q, rfl, hg, hth, fun hi2 => ht (by rw [List.length_cons]; omega)⟩
theorem next_range (w : World) (w1 : World) (x : IV) (t : TypeId) (o : Obj) (h : w1.heap.size = w.heap.size := by simp) : ((w1.alloc (.cells #[.int .i64 x.k, .int .i64 x.g, .int .i64 x.r] t)).alloc o).rangeAt w.heap.size 0 [.int .i64 x.k, .int .i64 x.g, .int .i64 x.r] := by
  rw [← h]
  exact range_row (C := #[.int .i64 x.k, .int .i64 x.g, .int .i64 x.r]) ((Below.heap_alloc _ _ _ (by simp)).trans (heap_alloc_new w1 _))
theorem next_post {E : Nat → Prop} {w : World} {Q : Nat} {v : Value} {xs : List IV} (h : QS E Q w v xs) (hQ : Q < w.heap.size) (hf : w.frozen? ⟨Q, 0, none⟩ = false) (hE : ∀ b, E b → b < w.heap.size) (hEQ : ¬ E Q) (o1 o2 : Obj) (hc : (w.cell? ⟨Q, 0, none⟩).isSome = true := by simp [*]) :
    QV E Q (((w.setCell ⟨Q, 0, none⟩ v).alloc o1).alloc o2) xs ∧ Keep E w (((w.setCell ⟨Q, 0, none⟩ v).alloc o1).alloc o2) := by
  have hb : ∀ g, g ≠ Q → g < w.heap.size → (((w.setCell ⟨Q, 0, none⟩ v).alloc o1).alloc o2).heap[g]? = w.heap[g]? := fun g hg hl =>
    (Below.heap_alloc _ _ _ (by simp; omega)).trans ((Below.heap_alloc _ _ _ (by simpa using hl)).trans (Below.heap_setCell _ _ _ _ hg))
  refine ⟨⟨v, ?_, ?_, h.of_blocks (fun g _ hg hl => hb g hg hl)⟩, ⟨rfl, rfl, rfl, by simp; omega, fun b hb' => hb b (fun e => hEQ (e ▸ hb')) (hE b hb')⟩⟩
  · obtain ⟨u, hu⟩ := Option.isSome_iff_exists.1 hc
    refine (World.cell?_of_block (w := w.setCell ⟨Q, 0, none⟩ v) ?_).trans (cell_set_same hu)
    exact (Below.heap_alloc _ _ _ (by simp; omega)).trans (Below.heap_alloc _ _ _ (by simpa using hQ))
  · refine (World.frozen?_of_block (w := w.setCell ⟨Q, 0, none⟩ v) ?_).trans ((frozen_set _).trans hf)
    exact (Below.heap_alloc _ _ _ (by simp; omega)).trans (Below.heap_alloc _ _ _ (by simpa using hQ))
set_option maxRecDepth 100000 in
set_option maxHeartbeats 1000000 in
theorem inext_any (E : Nat → Prop) (w : World) (Q : Nat) (x : IV) (xs : List IV) (h : QV E Q w (x :: xs)) (hE : ∀ b, E b → b < w.heap.size) (hQ : ¬ E Q) (hl : xs.length ≤ 8) :
    Calls Try.prog 53 #[.pointer (some ⟨Q, 0, none⟩)] w fun e w' => e = .returned (ivV x) ∧ QV E Q w' xs ∧ Keep E w w' := by
  obtain ⟨v, hc, hf, hs⟩ := h
  have HS := Lib.hid hs
  have HE := Lib.hid hE
  have HQ := Lib.hid hQ
  obtain ⟨a, cap, rfl, h1, h2, h3⟩ := hs
  rw [List.length_cons] at h1
  unfold maxLen at h2
  obtain ⟨g, p, rfl, hg, hth, ht⟩ := h3 0 (by omega)
  have ht0 := ht (by rw [List.length_cons]; omega)
  rw [show (x :: xs).getD 0 iz = x from rfl, Nat.zero_mul, Nat.add_zero] at ht0
  have HG := Lib.hid ht0.lt
  have hgQ : g ≠ Q := hg.2
  have hQl := block_lt_of_cell hc
  have hgl := HG.out
  obtain ⟨c0, c1, c2⟩ := ht0
  obtain ⟨n, hn⟩ : ∃ n, n = xs.length := ⟨_, rfl⟩
  have HN := Lib.hid hn
  rw [List.length_cons, ← hn] at HS hc
  rw [← hn] at h1 hl
  obtain ⟨q, hq⟩ : ∃ q, q = if cap = 1 then p else p + 3 := ⟨_, rfl⟩
  have HT := Lib.hid (HS.out.tail hq)
  have HQ0 := Lib.hid hq
  clear h3 hth ht hn hg hE hQ hq
  have hn1 : (1 : Int) ≤ (n : Int) + 1 := by omega
  have hn0 : (0 : Int) < (n : Int) + 1 := by omega
  have hcp : (n : Int) + 1 ≤ (cap : Int) := by omega
  go_enter Try.func53, Try.ntmps53
  go_wp2_with fail
  case inr =>
    rw [HQ0.out, if_neg h, Nat.add_sub_cancel] at HT
    refine bodyPost_ret (results_one_mid rfl _ _ w.heap.size 0 [.int .i64 x.k, .int .i64 x.g, .int .i64 x.r] _ rfl (by exact next_range w _ x _ _) Try.underlying25 rfl (by kernel_rfl)) rfl ?_
    exact ⟨rfl, next_post HT.out hQl hf HE.out HQ.out _ _⟩
  case inl =>
    subst h
    rw [HQ0.out, if_pos rfl, Nat.add_sub_cancel] at HT
    refine bodyPost_ret (results_one_mid rfl _ _ w.heap.size 0 [.int .i64 x.k, .int .i64 x.g, .int .i64 x.r] _ rfl (by exact next_range w _ x _ _) Try.underlying25 rfl (by kernel_rfl)) rfl ?_
    exact ⟨rfl, next_post HT.out hQl hf HE.out HQ.out _ _⟩
end Go.Proofs.Ytachiggolgdocaa
namespace Go.Proofs.Ytachiggolgdocaa
open Go.ChangeShapes Go.WideShapes Go.ChangeAt Go.RowKit
set_option linter.unusedVariables false
def tk (xs : List IV) (t : Int) (k : Nat) : List IV := if mix xs t < k then (xs.take k).eraseIdx (mix xs t) else xs.take k
def tkx (xs : List IV) (t : Int) (k : Nat) : IV := if mix xs t < k then xs.getD (mix xs t) iz else iz
theorem tk_len (xs : List IV) (t : Int) (k : Nat) : (tk xs t k).length ≤ k := by
  unfold tk
  split
  · exact Nat.le_trans (List.length_eraseIdx_le _ _) (by rw [List.length_take]; omega)
  · rw [List.length_take]; omega
theorem tk_hit {xs : List IV} {t : Int} {k : Nat} (hk : k < xs.length) (h : mix xs t = k) : tk xs t (k + 1) = tk xs t k := by
  unfold tk
  rw [h, if_pos (Nat.lt_succ_self _), if_neg (Nat.lt_irrefl _), take_snoc_getD xs k iz hk, List.eraseIdx_append_of_length_le (by rw [List.length_take]; omega)]
  rw [show k - (xs.take k).length = 0 by rw [List.length_take]; omega]
  simp
theorem tk_miss {xs : List IV} {t : Int} {k : Nat} (hk : k < xs.length) (h : mix xs t ≠ k) : tk xs t (k + 1) = tk xs t k ++ [xs.getD k iz] := by
  unfold tk
  by_cases hm : mix xs t < k
  · rw [if_pos (by omega), if_pos hm, take_snoc_getD xs k iz hk, List.eraseIdx_append_of_lt_length (by rw [List.length_take]; omega)]
  · rw [if_neg (by omega), if_neg hm, take_snoc_getD xs k iz hk]
theorem tk_end (xs : List IV) (t : Int) : tk xs t xs.length = xs.eraseIdx (mix xs t) := by
  unfold tk
  split
  · rw [List.take_length]
  · rw [List.take_length, List.eraseIdx_of_length_le (by omega)]
theorem drop_cons_getD {xs : List IV} {k : Nat} (hk : k < xs.length) : xs.drop k = xs.getD k iz :: xs.drop (k + 1) := by
  rw [getD_lt hk, List.drop_eq_getElem_cons hk]
structure TB (E : Nat → Prop) (w : World) (wr : World) (x : IV) : Prop where
  tr : wr.there w.heap.size 0 3
  tt : wr.there (w.heap.size + 1) 0 3
  tx : Tri wr (w.heap.size + 1) 0 x
  kp : Keep E w wr
def EB (E : Nat → Prop) (n : Nat) : Nat → Prop := fun b => E b ∨ b = n ∨ b = n + 1
theorem TB.keep {E : Nat → Prop} {w wr w2 : World} {x : IV} (h : TB E w wr x) (k : Keep (EB E w.heap.size) wr w2) : TB E w w2 x :=
  ⟨there_blocks h.tr (k.block _ (.inr (.inl rfl))), there_blocks h.tt (k.block _ (.inr (.inr rfl))), h.tx.block (k.block _ (.inr (.inr rfl))), h.kp.trans (k.mono (fun i hi => .inl hi))⟩
theorem TB.lt {E : Nat → Prop} {w wr : World} {x : IV} (h : TB E w wr x) (hE : ∀ b, E b → b < w.heap.size) : ∀ b, EB E w.heap.size b → b < wr.heap.size := fun b hb => by
  have h1 := h.tx.lt
  rcases hb with hb | hb | hb
  · have := hE b hb; omega
  · omega
  · omega
theorem TB.set {E : Nat → Prop} {w wr : World} {x : IV} (h : TB E w wr x) (hE : ∀ b, E b → b < w.heap.size) (y : IV) : TB E w (wr.setCells (w.heap.size + 1) 0 (ivC y)) y :=
  ⟨World.there_setCells h.tr _ _ _, World.there_setCells h.tt _ _ _, (TriW.stored h.tt).at3, h.kp.trans ⟨os_setCells _ _ _ _, tape_setCells _ _ _ _, output_setCells _ _ _ _, by rw [size_setCells]; exact Nat.le_refl _, fun i hi => heap_setCells_other w _ _ _ _ _ (by have := hE i hi; omega)⟩⟩
set_option maxRecDepth 100000 in
set_option maxHeartbeats 2000000 in
theorem itakeFor_any (E : Nat → Prop) (w : World) (Q : Nat) (xs : List IV) (t : Int) (h : QV E Q w xs) (hE : ∀ b, E b → b < w.heap.size) (hQ : ¬ E Q) (hl : xs.length ≤ 8) :
    Calls Try.prog 48 #[.pointer (some ⟨Q, 0, none⟩), .int .i64 t] w fun e w' => e = .returned (.tuple #[ivV (tkx xs t xs.length), .bool (decide (mix xs t < xs.length))]) ∧ QV E Q w' (xs.eraseIdx (mix xs t)) ∧ Keep E w w' := by
  have HE := Lib.hid hE
  have HL := Lib.hid hl
  have hQl := h.lt
  have HQ : Hid (¬ EB E w.heap.size Q) := Lib.hid (fun hh => by
    rcases hh with hh | hh | hh
    · exact hQ hh
    · omega
    · omega)
  obtain ⟨w0, hw0⟩ : ∃ w0, w0 = (w.alloc (.cells #[.int .i64 0, .int .i64 0, .int .i64 0] 25)).alloc (.cells #[.int .i64 0, .int .i64 0, .int .i64 0] 25) := ⟨_, rfl⟩
  have hB0 : Below w.heap.size w w0 := by rw [hw0]; exact ((Below.refl _ _).alloc (Nat.le_refl _) _).alloc (by simp) _
  have hs1 : (w.alloc (.cells #[.int .i64 0, .int .i64 0, .int .i64 0] 25)).heap.size = w.heap.size + 1 := by simp
  have HTB : Hid (TB E w w0 iz) := Lib.hid (by
    have ht := there_row (n := 3) (heap_alloc_new (w.alloc (.cells #[.int .i64 0, .int .i64 0, .int .i64 0] 25)) (.cells #[.int .i64 0, .int .i64 0, .int .i64 0] 25)) (by simp)
    have hx := tri_new (w.alloc (.cells #[.int .i64 0, .int .i64 0, .int .i64 0] 25)) iz 25
    rw [hs1] at ht hx
    rw [hw0]
    exact ⟨there_blocks (there_row (heap_alloc_new w _) (by simp)) (Below.heap_alloc _ _ _ (by simp)), ht, hx, by rw [← hw0]; exact Keep.of_below hB0 hE⟩)
  obtain ⟨v, hc, hf, hs⟩ := h
  have hc0 : w0.cell? ⟨Q, 0, none⟩ = some v := (World.cell?_of_block (hB0.block Q hQl)).trans hc
  have HV0 : Hid (QV (EB E w.heap.size) Q w0 xs) := Lib.hid ⟨v, hc0, (World.frozen?_of_block (hB0.block Q hQl)).trans hf, by
    obtain ⟨a, cap, e, h1, h2, h3⟩ := hs
    refine ⟨a, cap, e, h1, h2, fun i hi => ?_⟩
    obtain ⟨g, p, e, hg, hth, ht⟩ := h3 i hi
    have hgl := there_lt hth (by omega)
    have hbl := hB0.block g hgl
    refine ⟨g, p, e, ⟨fun hh => ?_, hg.2⟩, there_blocks hth hbl, fun hi2 => (ht hi2).block hbl⟩
    rcases hh with hh | hh | hh
    · exact hg.1 hh
    · omega
    · omega⟩
  obtain ⟨n, hn⟩ : ∃ n, n = xs.length := ⟨_, rfl⟩
  obtain ⟨a, ca, rfl, hla, hma, -⟩ := hs
  rw [← hn] at hc hc0 hla ⊢
  unfold maxLen at hma
  have HN := Lib.hid hn
  have hn8 : n ≤ 8 := by omega
  have HW0 := Lib.hid hw0
  have HC0 := Lib.hid hc0
  clear hw0 hB0 hs1 hf hn hE hQ hl hc0
  go_enter Try.func48, Try.ntmps48
  go_wp2_with fail
  rw [← HW0.out]
  clear hc hQl HW0
  go_loopw [7, 13] (fun f i wr => ∃ k : Nat, k ≤ n ∧ i = .int .i64 k ∧ f = .bool (decide (mix xs t < k)) ∧ Hid (TB E w wr (tkx xs t k)) ∧ Hid (QV (EB E w.heap.size) Q wr (xs.drop k ++ tk xs t k))) (fun _ i _ => n - (intOf i).toNat)
  case atStart => exact ⟨0, Nat.zero_le _, rfl, rfl, HTB, Lib.hid (by show QV _ _ _ (xs.drop 0 ++ xs.take 0); rw [List.drop_zero, List.take_zero, List.append_nil]; exact HV0.out)⟩
  case round =>
    obtain ⟨k, hk, rfl, rfl, HT, HV⟩ := hrel
    by_cases hlt : k < n
    · have hlt' : (k : Int) < (n : Int) := by omega
      obtain ⟨y, hy⟩ : ∃ y, y = xs.getD k iz := ⟨_, rfl⟩
      have HY := Lib.hid hy
      have HLE := Lib.hid (HT.out.lt HE.out)
      have HV1 : Hid (QV (EB E w.heap.size) Q wr (y :: (xs.drop (k + 1) ++ tk xs t k))) := Lib.hid (by
        have := HV.out
        rw [drop_cons_getD (by rw [← HN.out]; exact hlt), ← hy, List.cons_append] at this
        exact this)
      have HLN : Hid ((xs.drop (k + 1) ++ tk xs t k).length ≤ 8) := Lib.hid (by
        have := tk_len xs t k
        rw [List.length_append, List.length_drop, ← HN.out]
        omega)
      have HITM : Hid (mix xs t = k → tkx xs t (k + 1) = y ∧ tk xs t (k + 1) = tk xs t k) := Lib.hid (fun h => ⟨by unfold tkx; rw [if_pos (by omega), h, hy], tk_hit (by rw [← HN.out]; exact hlt) h⟩)
      have HMIS : Hid (mix xs t ≠ k → tkx xs t (k + 1) = tkx xs t k ∧ tk xs t (k + 1) = tk xs t k ++ [y]) := Lib.hid (fun h => ⟨by
        unfold tkx
        by_cases h1 : mix xs t < k
        · rw [if_pos h1, if_pos (by omega)]
        · rw [if_neg h1, if_neg (by omega)], by rw [hy]; exact tk_miss (by rw [← HN.out]; exact hlt) h⟩)
      have HEQ1 : Hid (¬ mix xs t < k → y.g = t → mix xs t = k) := Lib.hid (fun h1 h2 => mix_first (by rw [← HN.out]; exact hlt) (fun i hi => mix_before (by omega)) (by rw [← hy]; exact h2))
      have HEQ2 : Hid (mix xs t = k → y.g = t) := Lib.hid (fun h1 => by rw [hy, ← h1]; exact mix_at (by rw [h1, ← HN.out]; exact hlt))
      obtain ⟨m, hm⟩ : ∃ m, m = mix xs t := ⟨_, rfl⟩
      rw [← hm] at HITM HMIS HEQ1 HEQ2 ⊢
      have HM := Lib.hid hm
      clear hy hm HV
      go_wp2_with fail
      refine (inext_any (EB E w.heap.size) wr Q y _ HV1.out HLE.out HQ.out HLN.out).mono ?_
      rintro e w1 ⟨rfl, hv1, hk1⟩
      have HT1 := Lib.hid (HT.out.keep hk1)
      have HV2 := Lib.hid hv1
      have HLE1 := Lib.hid (HT1.out.lt HE.out)
      clear hv1 hk1
      obtain ⟨w2, hw2⟩ : ∃ w2, w2 = w1.alloc (.cells #[.int .i64 y.k, .int .i64 y.g, .int .i64 y.r] 25) := ⟨_, rfl⟩
      have HB2 : Hid (Below w1.heap.size w1 w2) := Lib.hid (by rw [hw2]; exact (Below.refl _ _).alloc (Nat.le_refl _) _)
      have HT2 : Hid (TB E w w2 (tkx xs t k)) := Lib.hid (HT1.out.keep (Keep.of_below HB2.out HLE1.out))
      have HV3 : Hid (QV (EB E w.heap.size) Q w2 (xs.drop (k + 1) ++ tk xs t k)) := Lib.hid (HV2.out.of_blocks (fun g _ hg => HB2.out.block g hg) HQ.out)
      have HW2 := Lib.hid hw2
      clear hw2
      have HLE2 := Lib.hid (HT2.out.lt HE.out)
      by_cases hg : y.g = t
      · have hg' : (y.g == t) = true := by simpa using hg
        by_cases hmk : m < k
        · have hmk' : decide (m < k) = true := by simpa using hmk
          have HX := Lib.hid (HMIS.out (by omega))
          have hmk1 : decide (m < k + 1) = decide (m < k) := by rw [hmk', decide_eq_true (by omega)]
          rw [hmk']
          rw [hmk'] at hmk1
          clear hg hmk
          go_wp2_with fail
          rw [← HW2.out]
          refine (iput_any (EB E w.heap.size) w2 Q y _ HV3.out HLE2.out HQ.out HLN.out).mono ?_
          rintro e w3 ⟨rfl, hv3, hk3⟩
          have HT3 := Lib.hid (HT2.out.keep hk3)
          have HV4 : Hid (QV (EB E w.heap.size) Q w3 (xs.drop (k + 1) ++ tk xs t (k + 1))) := Lib.hid (by rw [HX.out.2, ← List.append_assoc]; exact hv3)
          clear hv3 hk3
          go_wp2
          go_roundw
          case rel => exact ⟨k + 1, by omega, by go_num, by rw [hmk1], by rw [HX.out.1]; exact HT3, HV4⟩
          case measure => simp [intOf]; omega
        · have hmk' : decide (m < k) = false := by simpa using hmk
          have HMK := Lib.hid (HEQ1.out hmk hg)
          have HX := Lib.hid (HITM.out HMK.out)
          have hmk1 : decide (m < k + 1) = true := decide_eq_true (by have := HMK.out; omega)
          have HT3 := Lib.hid (HT2.out.set HE.out y)
          have HV4 : Hid (QV (EB E w.heap.size) Q (w2.setCells (w.heap.size + 1) 0 (ivC y)) (xs.drop (k + 1) ++ tk xs t (k + 1))) := Lib.hid (by
            rw [HX.out.2]
            exact HV3.out.of_blocks (fun g hge _ => heap_setCells_other w _ _ _ _ _ (fun e => hge (.inr (.inr e)))) HQ.out)
          rw [hmk']
          obtain ⟨W3, hW3⟩ : ∃ W3, W3 = w2.setCells (w.heap.size + 1) 0 (ivC y) := ⟨_, rfl⟩
          rw [← hW3] at HT3 HV4
          have HW3 := Lib.hid hW3
          clear hW3 hg hmk
          have hTB := HT2.out.tt
          rw [HW2.out] at hTB
          have HTT := Lib.hid hTB
          clear hTB
          go_wp2_with ((with_reducible refine store_is 25 (.tmp 6) (.tmp 25) ?_); refine store_arr 25 (.tmp 6) (.tmp 25) (w.heap.size + 1) 0 #[.int .i64 y.k, .int .i64 y.g, .int .i64 y.r] rfl rfl HTT.out info_iv (ivBits y) ?_; rw [← HW2.out, show (#[.int .i64 y.k, .int .i64 y.g, .int .i64 y.r] : Array Value).toList = ivC y from rfl, ← HW3.out])
          go_roundw
          case rel => exact ⟨k + 1, by omega, by go_num, by rw [hmk1], by rw [HX.out.1]; exact HT3, HV4⟩
          case measure => simp [intOf]; omega
      · have hg' : (y.g == t) = false := by simpa using hg
        have HX := Lib.hid (HMIS.out (fun h => hg (HEQ2.out h)))
        have hne : m ≠ k := fun h => hg (HEQ2.out h)
        have hmk1 : decide (m < k + 1) = decide (m < k) := by rw [decide_eq_decide]; omega
        clear hg
        go_wp2_with fail
        rw [← HW2.out]
        refine (iput_any (EB E w.heap.size) w2 Q y _ HV3.out HLE2.out HQ.out HLN.out).mono ?_
        rintro e w3 ⟨rfl, hv3, hk3⟩
        have HT3 := Lib.hid (HT2.out.keep hk3)
        have HV4 : Hid (QV (EB E w.heap.size) Q w3 (xs.drop (k + 1) ++ tk xs t (k + 1))) := Lib.hid (by rw [HX.out.2, ← List.append_assoc]; exact hv3)
        clear hv3 hk3
        go_wp2
        go_roundw
        case rel => exact ⟨k + 1, by omega, by go_num, by rw [hmk1], by rw [HX.out.1]; exact HT3, HV4⟩
        case measure => simp [intOf]; omega
    · have e : k = n := by omega
      subst e
      have hke : xs.drop k ++ tk xs t k = xs.eraseIdx (mix xs t) := by rw [HN.out, List.drop_length, List.nil_append, tk_end]
      rw [hke] at HV
      clear hke
      obtain ⟨X, hX⟩ : ∃ X, X = tkx xs t k := ⟨_, rfl⟩
      rw [← hX] at HT
      have HX0 := Lib.hid hX
      clear hX
      obtain ⟨c0, c1, c2⟩ := HT.out.tx
      simp only [Nat.zero_add] at c0 c1 c2
      have HTT := Lib.hid HT.out.tr
      obtain ⟨W3, hW3⟩ : ∃ W3, W3 = wr.setCells w.heap.size 0 (ivC X) := ⟨_, rfl⟩
      have HW3 := Lib.hid hW3
      have HRG : Hid (W3.rangeAt w.heap.size 0 (ivC X)) := Lib.hid (by rw [hW3]; exact World.rangeAt_setCells_same _ _ _ _ HTT.out)
      have HF : Hid (QV E Q W3 (xs.eraseIdx (mix xs t)) ∧ Keep E w W3) := Lib.hid (by
        rw [hW3]
        refine ⟨?_, HT.out.kp.trans ⟨os_setCells _ _ _ _, tape_setCells _ _ _ _, output_setCells _ _ _ _, by rw [size_setCells]; exact Nat.le_refl _, fun i hi => heap_setCells_other w _ _ _ _ _ (by have := HE.out i hi; omega)⟩⟩
        have := HV.out.of_blocks (w' := wr.setCells w.heap.size 0 (ivC X)) (fun g hge _ => heap_setCells_other w _ _ _ _ _ (fun e => hge (.inr (.inl e)))) HQ.out
        obtain ⟨v, q1, q2, a, cap, q3, q4, q5, q6⟩ := this
        exact ⟨v, q1, q2, a, cap, q3, q4, q5, fun i hi => by
          obtain ⟨g, p, e, r1, r2⟩ := q6 i hi
          exact ⟨g, p, e, ⟨fun hh => r1.1 (.inl hh), r1.2⟩, r2⟩⟩)
      clear hW3
      go_wp2_with ((with_reducible refine store_is 25 (.tmp 4) (.tmp 30) ?_); refine store_arr 25 (.tmp 4) (.tmp 30) w.heap.size 0 #[.int .i64 X.k, .int .i64 X.g, .int .i64 X.r] rfl rfl HTT.out info_iv (ivBits X) ?_; rw [show (#[.int .i64 X.k, .int .i64 X.g, .int .i64 X.r] : Array Value).toList = ivC X from rfl, ← HW3.out])
      refine bodyPost_ret (results_cell_mid rfl _ _ w.heap.size 0 (ivC X) _ rfl HRG.out Try.underlying25 rfl (by kernel_rfl)) rfl ?_
      exact ⟨by rw [← HX0.out]; rfl, HF.out.1, HF.out.2⟩
end Go.Proofs.Ytachiggolgdocaa
namespace Go.Proofs.Ytachiggolgdocaa
open Go.ChangeShapes Go.WideShapes Go.ChangeAt Go.RowKit
set_option linter.unusedVariables false
set_option maxRecDepth 100000 in
set_option maxHeartbeats 1000000 in
theorem imt_any (w : World) (v : Value) (xs : List IV) (t : Int) (h : Is w v xs) :
    Calls Try.prog 22 #[v, .int .i64 t] w (NewVMB (mrest xs t) (mtaken xs t) (mgot xs t) w) := by
  obtain ⟨ys, hys⟩ : ∃ ys, ys = mrest xs t := ⟨_, rfl⟩
  obtain ⟨b, hb⟩ : ∃ b, b = mgot xs t := ⟨_, rfl⟩
  obtain ⟨x, hx⟩ : ∃ x, x = mtaken xs t := ⟨_, rfl⟩
  rw [← hys, ← hb, ← hx]
  have HYS := Lib.hid hys
  have HBB := Lib.hid hb
  have HXX := Lib.hid hx
  clear hys hb hx
  obtain ⟨w0, hw0⟩ : ∃ w0, w0 = w.alloc (.cells #[.int .i64 0, .int .i64 0, .int .i64 0] 25) := ⟨_, rfl⟩
  have HW0 := Lib.hid hw0
  have HR0 : Hid (w0.there w.heap.size 0 3) := Lib.hid (by rw [hw0]; exact there_row (heap_alloc_new w _) (by simp))
  have B0 : Hid (Below w.heap.size w w0) := Lib.hid (by rw [hw0]; exact (Below.refl _ _).alloc (Nat.le_refl _) _)
  have L0 : Hid (w.heap.size < w0.heap.size) := Lib.hid (by rw [hw0]; simp)
  have HC := Lib.hid (queueOf_any w0 v xs (h.below B0.out))
  clear h hw0
  cases h1 : msok xs with
  | false =>
    have HR : Hid (ys = [] ∧ b = false ∧ x = iz) := Lib.hid (by rw [HYS.out, HBB.out, HXX.out, mrest, mtaken, mgot, h1]; exact ⟨rfl, rfl, rfl⟩)
    rw [h1] at HC
    clear h1
    rw [HR.out.1, HR.out.2.1, HR.out.2.2]
    go_enter Try.func22, Try.ntmps22
    go_wp2_with fail
    rw [← HW0.out]
    refine HC.out.mono ?_
    rintro e w1 ⟨v1, rfl, -, h2, hb1⟩
    obtain rfl := h2 rfl
    have hb2 := hb1.alloc hb1.size (.cells #[.slice none 0 0] 60)
    have B2 := Lib.hid (B0.out.trans (hb2.mono B0.out.size))
    have HR1 : Hid ((w1.alloc (.cells #[.slice none 0 0] 60)).there w.heap.size 0 3) := Lib.hid (there_blocks HR0.out (hb2.block _ L0.out))
    clear hb1 h2 hb2
    go_wp2_with ((with_reducible refine store_is 25 (.tmp 5) (.tmp 18) ?_); refine store_arr 25 (.tmp 5) (.tmp 18) w.heap.size 0 #[.int .i64 0, .int .i64 0, .int .i64 0] rfl rfl HR1.out info_iv (by simp [Value.oneCell']) ?_)
    refine bodyPost_ret (results_scs rfl _ _ w.heap.size 0 [.int .i64 0, .int .i64 0, .int .i64 0] _ rfl (World.rangeAt_setCells_same _ _ _ _ HR1.out) Try.underlying25 rfl (by kernel_rfl)) rfl ?_
    exact ⟨_, rfl, isW_none, Below.setCells (Below.refl _ _) _ (Nat.le_refl _) _ _ _ B2.out⟩
  | true =>
    have HOK := Lib.hid h1
    rw [h1] at HC
    clear h1
    have hl8 := msok_len HOK.out
    obtain ⟨n, hnn⟩ : ∃ n, n = xs.length := ⟨_, rfl⟩
    have HN := Lib.hid hnn
    rw [← hnn] at hl8
    have HY1 : Hid (ys = xs.eraseIdx (mix xs t)) := Lib.hid (by rw [HYS.out, mrest, if_pos HOK.out])
    have HB1 : Hid (b = decide (mix xs t < n)) := Lib.hid (by rw [HBB.out, mgot, HOK.out, Bool.true_and, ← hnn])
    have HX1 : Hid (x = tkx xs t n) := Lib.hid (by
      rw [HXX.out, mtaken, mgot, HOK.out, Bool.true_and, tkx, ← hnn]
      by_cases hm : mix xs t < n
      · rw [if_pos (decide_eq_true hm), if_pos hm]
      · rw [if_neg (by rw [decide_eq_false hm]; exact Bool.noConfusion), if_neg hm])
    clear HYS HBB HXX hnn
    go_enter Try.func22, Try.ntmps22
    go_wp2_with fail
    rw [← HW0.out]
    refine HC.out.mono ?_
    rintro e w1 ⟨v1, rfl, h1, -, hb1⟩
    have HQR := Lib.hid (h1 rfl)
    obtain ⟨a1, c1, rfl, hc1⟩ : ∃ a c, v1 = .slice a n c ∧ n ≤ c := by obtain ⟨a, c, e, hc, _⟩ := HQR.out; rw [← HN.out] at e hc; exact ⟨a, c, e, hc⟩
    have hb2 := hb1.alloc hb1.size (.cells #[.slice a1 n c1] 60)
    have HLQ : Hid (w.heap.size < w1.heap.size) := Lib.hid (Nat.lt_of_lt_of_le L0.out hb1.size)
    have HQV := Lib.hid ((qv_new HQR.out hb1 60).mono (F := fun b => b < w0.heap.size) (fun b hb => .inl hb))
    obtain ⟨Q, hQ⟩ : ∃ Q, Q = w1.heap.size := ⟨_, rfl⟩
    obtain ⟨w2, hw2⟩ : ∃ w2, w2 = w1.alloc (.cells #[.slice a1 n c1] 60) := ⟨_, rfl⟩
    rw [← hw2] at hb2
    rw [← hQ, ← hw2] at HQV
    rw [← hQ] at HLQ
    have HLQ0 : Hid (w0.heap.size ≤ Q) := Lib.hid (by rw [hQ]; exact hb1.size)
    have HW2 := Lib.hid hw2
    have HQE := Lib.hid hQ
    have B2 := Lib.hid (B0.out.trans (hb2.mono B0.out.size))
    have B02 := Lib.hid hb2
    have HR2 := Lib.hid (there_blocks HR0.out (hb2.block _ L0.out))
    clear hb1 h1 hb2 hw2 hQ
    go_wp2_with fail
    rw [← HW2.out, ← HQE.out]
    refine (itakeFor_any (fun b => b < w0.heap.size) w2 Q xs t HQV.out (fun i hi => Nat.lt_of_lt_of_le hi B02.out.size) (by have := HLQ0.out; omega) (by rw [← HN.out]; exact hl8)).mono ?_
    rintro e w3 ⟨rfl, hv3, hk3⟩
    rw [← HN.out, ← HX1.out, ← HB1.out]
    have B3 := Lib.hid (B02.out.trans hk3.below)
    have BW := Lib.hid (B0.out.trans (B3.out.mono B0.out.size))
    have HR3 := Lib.hid (there_blocks HR2.out (hk3.block _ L0.out))
    rw [← HY1.out] at hv3
    have HQ3 := Lib.hid hv3
    clear hv3 hk3
    obtain ⟨v4, hcq, hfq, hsq⟩ := HQ3.out
    have HS4 := Lib.hid (hsq.isW (B := w0.heap.size) (fun g hg => hg))
    obtain ⟨a4, c4, rfl, -⟩ := hsq
    obtain ⟨n4, hn4⟩ : ∃ n4, n4 = ys.length := ⟨_, rfl⟩
    rw [← hn4] at hcq HS4
    have hql := HQ3.out.lt
    clear hfq hn4
    go_wp2_with fail
    have HBD : Hid (Below w3.heap.size w3 (w3.alloc (.cells #[.int .i64 x.k, .int .i64 x.g, .int .i64 x.r] 25)).drew) := Lib.hid (((Below.refl _ _).alloc (Nat.le_refl _) _).drew)
    have HSD : Hid ((w3.alloc (.cells #[.int .i64 x.k, .int .i64 x.g, .int .i64 x.r] 25)).drew.cell? ⟨Q, 0, none⟩ = some (.slice a4 n4 c4) ∧ Tri (w3.alloc (.cells #[.int .i64 x.k, .int .i64 x.g, .int .i64 x.r] 25)).drew w3.heap.size 0 x) := Lib.hid ⟨(World.cell?_of_block (HBD.out.block Q hql)).trans hcq, (tri_new w3 x 25).drewN 1⟩
    have HL3 : Hid (w.heap.size < w3.heap.size) := Lib.hid (Nat.lt_of_lt_of_le L0.out (by have := B3.out.size; exact this))
    refine wp_region_held_drew (S := fun w' => w'.cell? ⟨Q, 0, none⟩ = some (.slice a4 n4 c4) ∧ Tri w' w3.heap.size 0 x) (by kernel_rfl) HSD.out (fun hHeld => ?_)
    refine anyH_gen _ (fun AZ hgen => ?_)
    have HBZ := Lib.hid (by rw [hgen]; exact HBD.out : Below w3.heap.size w3 AZ)
    rw [← hgen] at hHeld HSD
    have HSZ := HSD
    have HRZ := Lib.hid (there_blocks HR3.out (HBZ.out.block _ HL3.out))
    have HS5 : Hid (IsW AZ w0.heap.size AZ.heap.size (.slice a4 n4 c4) ys) := Lib.hid ((HS4.out.below HBZ.out (Nat.le_refl _)).wide (Nat.le_refl _) HBZ.out.size)
    have BZ := Lib.hid (BW.out.trans (HBZ.out.mono BW.out.size))
    clear hgen
    refine wpAnyH_take (i := 0) (oi := { dst := some 24, op := .load 60 (.tmp 7), type := _, pos := _, after := _, guard := none }) (v := .slice a4 n4 c4) rfl (by kernel_rfl) (by kernel_rfl) (by kernel_rfl) (fun _ _ _ h => h) (Or.inl ⟨by rfl, fun wh hSw => ?_⟩) hHeld ?_
    · (obtain ⟨d, d0, d1, d2⟩ := hSw; go_simp)
    try simp only [Act.put, List.setIfInBounds_toArray, List.set_cons_zero, List.set_cons_succ]
    refine wpAnyH_take (i := 1) (oi := { dst := some 25, op := .load 25 (.tmp 9), type := _, pos := _, after := _, guard := none }) (v := .agg #[.int .i64 x.k, .int .i64 x.g, .int .i64 x.r]) rfl (by kernel_rfl) (by kernel_rfl) (by kernel_rfl) (fun _ _ _ h => h) (Or.inl ⟨by rfl, fun wh hSw => ?_⟩) hHeld ?_
    · (obtain ⟨d, d0, d1, d2⟩ := hSw; go_simp)
    try simp only [Act.put, List.setIfInBounds_toArray, List.set_cons_zero, List.set_cons_succ]
    refine wpAnyH_take (i := 2) (oi := { dst := some 26, op := .move (.tmp 10), type := _, pos := _, after := _, guard := none }) (v := .bool b) rfl (by kernel_rfl) (by kernel_rfl) (by kernel_rfl) (fun _ _ _ h => h) (Or.inl ⟨by rfl, fun wh hSw => ?_⟩) hHeld ?_
    · (obtain ⟨d, d0, d1, d2⟩ := hSw; go_simp)
    try simp only [Act.put, List.setIfInBounds_toArray, List.set_cons_zero, List.set_cons_succ]
    refine wpAnyH_take (i := 3) (oi := { dst := some 4, op := .assign (.tmp 24), type := _, pos := _, after := _, guard := none }) (v := .slice a4 n4 c4) rfl (by kernel_rfl) (by kernel_rfl) (by kernel_rfl) (fun _ _ _ h => h) (Or.inl ⟨by rfl, fun wh hSw => ?_⟩) hHeld ?_
    · (obtain ⟨d, d0, d1, d2⟩ := hSw; go_simp)
    try simp only [Act.put, List.setIfInBounds_toArray, List.set_cons_zero, List.set_cons_succ]
    refine wpAnyH_ready (rs := [4]) (by kernel_rfl) (by simp) ?_
    refine AllReadyH.cons (o := { dst := none, op := .store 25 (.tmp 5) (.tmp 25), type := _, pos := _, after := _, guard := none }) rfl (fun K hK => ?_) AllReadyH.nil
    rw [if_pos (by rfl)]
    refine wp_store_mid 25 (.tmp 5) (.tmp 25) rfl w.heap.size 0 #[.int .i64 x.k, .int .i64 x.g, .int .i64 x.r] rfl rfl HRZ.out info_iv (ivBits x) ?_
    refine hK.out _ _ ?_ (fun hHeld => ?_)
    · exact ⟨(World.cell?_of_block (heap_setCells_other w _ _ _ AZ _ (by have := HLQ0.out; have := L0.out; show Q ≠ w.heap.size; omega))).trans HSZ.out.1, HSZ.out.2.block (heap_setCells_other w _ _ _ AZ _ (by have := HL3.out; omega))⟩
    clear hK K
    try simp only [Act.put]
    refine wpAnyH_take (i := 5) (oi := { dst := some 6, op := .assign (.tmp 26), type := _, pos := _, after := _, guard := none }) (v := .bool b) rfl (by kernel_rfl) (by kernel_rfl) (by kernel_rfl) (fun _ _ _ h => h) (Or.inl ⟨by rfl, fun wh hSw => ?_⟩) hHeld ?_
    · (obtain ⟨d, d0, d1, d2⟩ := hSw; go_simp)
    try simp only [Act.put, List.setIfInBounds_toArray, List.set_cons_zero, List.set_cons_succ]
    refine wpAnyH_done (by kernel_rfl) ?_ _
    go_wp2_with fail
    refine bodyPost_ret (results_scs rfl _ _ w.heap.size 0 (ivC x) _ rfl (World.rangeAt_setCells_same _ _ _ _ HRZ.out) Try.underlying25 rfl (by kernel_rfl)) rfl ?_
    exact ⟨_, rfl, (HS5.out.out_box L0.out).wide B0.out.size (Nat.le_of_eq (size_setCells _ _ _ _).symm), Below.setCells (Below.refl _ _) _ (Nat.le_refl _) _ _ _ BZ.out⟩
end Go.Proofs.Ytachiggolgdocaa
