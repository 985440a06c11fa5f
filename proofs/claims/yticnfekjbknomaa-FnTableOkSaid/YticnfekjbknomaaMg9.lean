/- What the proofs stand on, part 9: TIe TIf TIg TIh TMath2 TIi. -/
import Derived.Test.YticnfekjbknomaaMg8
import Derived.Test.YticnfekjbknomaaMg6
import Derived.Test.YticnfekjbknomaaMg5
import Derived.Test.YticnfekjbknomaaMg7
/- A memory and what is known of its frames, as the program keeps both. -/
namespace Go.Proofs.Yticnfekjbknomaa
open Go.ChangeShapes Go.WideShapes Go.ChangeAt Go.RowKit
set_option linter.unusedVariables false
set_option linter.unusedSimpArgs false

theorem zero_tables (w : World) : (zeroValue 83).run Try.prog w = .ok (.agg Z84.toArray) w := Try.zeroValue83 w
theorem info_tables {n : Nat} (h : n = 84) : (Try.prog.info? 83).map (·.size) = some n := by subst h; kernel_rfl
/-- the cells of a memory -/
def mC (xss : List (List Int)) : List Value := if memOk xss = true then flatL xss else List.replicate 48 (Value.int .i64 0)
theorem mC_ok {xss : List (List Int)} (h : memOk xss = true) : mC xss = flatL xss := if_pos h
theorem mC_len (xss : List (List Int)) : (mC xss).length = 48 := by
  unfold mC
  split
  · rename_i h; exact flat_len h
  · rw [List.length_replicate]
theorem mC_arr (xss : List (List Int)) : (bif memOk xss then (flatL xss).toArray else zero48) = (mC xss).toArray := by
  unfold mC
  cases memOk xss
  · show zero48 = _
    unfold zero48
    rw [if_neg (by simp)]; rfl
  · rfl
theorem mC_one (xss : List (List Int)) : (mC xss).toArray.all (·.oneCell') = true := by
  unfold mC
  split
  · exact flat_one xss
  · exact all_oneCell_toArray (fun v hv => by rw [List.eq_of_mem_replicate hv]; rfl)
/-- both in one row of cells -/
def tC (xss : List (List Int)) (zs : List IV) : List Value := mC xss ++ isC zs
theorem tC_len (xss : List (List Int)) {zs : List IV} (hz : zs.length = 12) : (tC xss zs).length = 84 := by
  unfold tC
  rw [List.length_append, mC_len, isC_36 hz]
theorem tC_one (xss : List (List Int)) (zs : List IV) : (tC xss zs).toArray.all (·.oneCell') = true := all_oneCell_toArray (fun v hv => by
  unfold tC at hv
  rcases List.mem_append.1 hv with h | h
  · have := mC_one xss
    rw [List.all_toArray, List.all_eq_true] at this
    exact this v h
  · exact isC_one zs v h)
/-- a new variable that holds these cells -/
structure VarL (w : World) (B : Nat) (L : List Value) (W : World) : Prop where
  bel : Below w.heap.size w W
  lo : w.heap.size ≤ B
  hi : B < W.heap.size
  at0 : W.rangeAt B 0 L
  th : W.there B 0 L.length
theorem VarL.after {w W W2 : World} {B : Nat} {L : List Value} (h : VarL w B L W) (hb : Below W.heap.size W W2) : VarL w B L W2 :=
  ⟨h.bel.trans (hb.mono h.bel.size), h.lo, by have := h.hi; have := hb.size; omega, range_blocks h.at0 (hb.block _ h.hi), there_blocks h.th (hb.block _ h.hi)⟩
theorem VarL.make {w w1 : World} {L : List Value} {Z : Array Value} (t : TypeId) (hb : Below w.heap.size w w1) (hZ : Z.size = L.length) : (w1.alloc (.cells Z t)).there w1.heap.size 0 L.length ∧ VarL w w1.heap.size L ((w1.alloc (.cells Z t)).setCells w1.heap.size 0 L) := by
  have ht : (w1.alloc (.cells Z t)).there w1.heap.size 0 L.length := there_row (heap_alloc_new w1 _) (by omega)
  exact ⟨ht, Below.setCells (Below.refl _ _) _ hb.size _ _ _ (hb.alloc hb.size _), hb.size, by rw [size_setCells]; simp, World.rangeAt_setCells_same _ _ _ _ ht, fun j hj => by
    have h0 := World.there_setCells ht w1.heap.size 0 L
    exact h0 j hj⟩
theorem VarL.new {w w1 : World} (L : List Value) (t : TypeId) (hb : Below w.heap.size w w1) : VarL w w1.heap.size L (w1.alloc (.cells L.toArray t)) :=
  ⟨hb.alloc hb.size _, hb.size, by simp, range_row (heap_alloc_new w1 _), there_row (heap_alloc_new w1 _) (by simp)⟩
theorem VarL.set {w W : World} {B : Nat} {L : List Value} (h : VarL w B L W) {M : List Value} (hm : M.length = L.length) : VarL w B M (W.setCells B 0 M) := by
  have ht : W.there B 0 M.length := by rw [hm]; exact h.th
  exact ⟨Below.setCells (Below.refl _ _) _ h.lo _ _ _ h.bel, h.lo, by rw [size_setCells]; exact h.hi, World.rangeAt_setCells_same _ _ _ _ ht, World.there_setCells ht B 0 M⟩
theorem VarL.other {w W : World} {B C : Nat} {L : List Value} (h : VarL w B L W) (hc : w.heap.size ≤ C) (hne : B ≠ C) (o : Nat) (M : List Value) : VarL w B L (W.setCells C o M) :=
  ⟨Below.setCells (Below.refl _ _) _ hc _ _ _ h.bel, h.lo, by rw [size_setCells]; exact h.hi, range_blocks h.at0 (heap_setCells_other W _ _ _ _ _ hne), there_blocks h.th (heap_setCells_other W _ _ _ _ _ hne)⟩
def ArrT (L : List Value) (b : Bool) (w : World) (e : Ending) (w' : World) : Prop := e = .returned (.tuple #[.agg L.toArray, .bool b]) ∧ Below w.heap.size w w'
set_option maxRecDepth 100000 in
set_option maxHeartbeats 2000000 in
theorem tablesOf_any (w : World) (vm vl : Value) (xss : List (List Int)) (ys : List IV) (hm : Rows2 w vm xss) (hl : Is w vl ys) (hs : ShortI ys) :
    Calls Try.prog 68 #[vm, vl] w (ArrT (tC xss (arrOf ys)) (memOk xss && isok ys) w) := by
  have HCM : Hid (∀ w', Below w.heap.size w w' → Calls Try.prog 81 #[vm] w' (ArrRes w' (mC xss).toArray (memOk xss))) := Lib.hid (fun w' hb => by
    rw [← mC_arr]; exact memoryOf_any (hm.below hb))
  have HCI : Hid (∀ w', Below w.heap.size w w' → Calls Try.prog 90 #[vl] w' (ArrI (arrOf ys) (isok ys) w')) := Lib.hid (fun w' hb => infosOf_any w' vl ys (hl.below hb) hs)
  unfold ArrRes at HCM
  unfold ArrI at HCI
  unfold tC
  have HBT := Lib.hid (fun w => run_build_tables (mC xss) (isC (arrOf ys)) (mC_len xss) (isC_36 (arrOf_len ys)) w)
  have HA : Hid ((mC xss).length = 48) := Lib.hid (mC_len xss)
  have HB : Hid ((isC (arrOf ys)).length = 36) := Lib.hid (isC_36 (arrOf_len ys))
  have HOA : Hid ((mC xss).toArray.all (·.oneCell') = true) := Lib.hid (mC_one xss)
  have HOB : Hid ((isC (arrOf ys)).toArray.all (·.oneCell') = true) := Lib.hid (isC_all _)
  have HOT : Hid ((mC xss ++ isC (arrOf ys)).toArray.all (·.oneCell') = true) := Lib.hid (tC_one _ _)
  obtain ⟨A, hA⟩ : ∃ A, A = mC xss := ⟨_, rfl⟩
  obtain ⟨B, hB⟩ : ∃ B, B = isC (arrOf ys) := ⟨_, rfl⟩
  rw [← hA] at HCM HBT HA HOA HOT ⊢
  rw [← hB] at HCI HBT HB HOB HOT ⊢
  obtain ⟨a, ha⟩ : ∃ a, a = memOk xss := ⟨_, rfl⟩
  obtain ⟨b, hb⟩ : ∃ b, b = isok ys := ⟨_, rfl⟩
  rw [← ha] at HCM ⊢
  rw [← hb] at HCI ⊢
  have HAZ : Hid (A.toArray.size = A.length) := Lib.hid (by simp)
  have HBZ : Hid (B.toArray.size = B.length) := Lib.hid (by simp)
  obtain ⟨T, hT⟩ : ∃ T, T = A ++ B := ⟨_, rfl⟩
  have HT : Hid (T.length = 84) := Lib.hid (by rw [hT, List.length_append, HA.out, HB.out])
  rw [← hT] at HBT HOT ⊢
  have ZM := Lib.hid zero_mem
  have ZI := Lib.hid zero_infos
  have ZT := Lib.hid zero_tables
  have ZMS : Hid (zero48.size = A.length) := Lib.hid (by rw [HA.out]; exact zero_size)
  have ZIS : Hid ((isC z12).toArray.size = B.length) := Lib.hid (by rw [HB.out, List.size_toArray, isC_36 z12_len])
  have ZTS : Hid (Z84.length = T.length) := Lib.hid (by rw [HT.out]; rfl)
  obtain ⟨zm, hzm⟩ : ∃ z, z = zero48 := ⟨_, rfl⟩
  obtain ⟨zi, hzi⟩ : ∃ z, z = (isC z12).toArray := ⟨_, rfl⟩
  obtain ⟨zt, hzt⟩ : ∃ z, z = Z84 := ⟨_, rfl⟩
  rw [← hzm] at ZM ZMS
  rw [← hzi] at ZI ZIS
  rw [← hzt] at ZT ZTS
  clear hzm hzi hzt hT ha hb hA hB hm hl hs
  go_enter Try.func68, Try.ntmps68
  go_wp2_with (first | ((with_reducible refine alloc_is 83 ?_); refine alloc_arr 83 zt.toArray ZT.out ?_) | fail)
  have HV0 := Lib.hid (VarL.new zt 83 (Below.refl w.heap.size w))
  obtain ⟨X, hX⟩ : ∃ X, X = w.heap.size := ⟨_, rfl⟩
  obtain ⟨w0, hw0⟩ : ∃ w0, w0 = w.alloc (.cells zt.toArray 83) := ⟨_, rfl⟩
  rw [← hw0, ← hX] at HV0 ⊢
  have HXE := Lib.hid hX
  clear hX hw0
  refine (HCM.out _ HV0.out.bel).mono ?_
  rintro e w1 ⟨rfl, hb1⟩
  have HM := Lib.hid (VarL.make 79 (HV0.out.bel.trans (hb1.mono HV0.out.bel.size)) ZMS.out)
  have HV1 := Lib.hid ((HV0.out.after hb1).after ((Below.refl w1.heap.size w1).alloc (Nat.le_refl _) (.cells zm 79)))
  have HNE : Hid (X ≠ w1.heap.size) := Lib.hid (by have := (HV0.out.after hb1).hi; omega)
  obtain ⟨Y, hY⟩ : ∃ Y, Y = w1.heap.size := ⟨_, rfl⟩
  have HYL : Hid (w.heap.size ≤ Y) := Lib.hid (by rw [hY]; exact (HV0.out.after hb1).bel.size)
  have HYE := Lib.hid hY
  rw [← hY] at HM HNE
  obtain ⟨w2, hw2⟩ : ∃ w2, w2 = (w1.alloc (.cells zm 79)).setCells Y 0 A := ⟨_, rfl⟩
  have HX2 := Lib.hid (HV1.out.other HYL.out HNE.out 0 A)
  have HM2 := Lib.hid HM.out.2
  have HTH : Hid ((w1.alloc (.cells zm 79)).there w1.heap.size 0 A.toArray.size) := Lib.hid (by rw [← HYE.out, HAZ.out]; exact HM.out.1)
  rw [← hw2] at HX2 HM2
  have HW2 := Lib.hid hw2
  clear hY hw2 HM hb1
  go_wp2_with (first | ((with_reducible refine alloc_is 79 ?_); refine alloc_arr 79 zm ZM.out ?_) | ((with_reducible refine store_is 79 (.tmp 6) (.tmp 13) ?_); refine store_arr 79 (.tmp 6) (.tmp 13) w1.heap.size 0 A.toArray rfl rfl HTH.out (info_mem (HAZ.out.trans HA.out)) HOA.out ?_; rw [show A.toArray.toList = A from rfl, ← HYE.out, ← HW2.out]) | fail)
  refine (HCI.out _ HM2.out.bel).mono ?_
  rintro e w3 ⟨rfl, hb3⟩
  have HI := Lib.hid (VarL.make 81 (HM2.out.after hb3).bel ZIS.out)
  have HX3 := Lib.hid ((HX2.out.after hb3).after ((Below.refl w3.heap.size w3).alloc (Nat.le_refl _) (.cells zi 81)))
  have HM3 := Lib.hid ((HM2.out.after hb3).after ((Below.refl w3.heap.size w3).alloc (Nat.le_refl _) (.cells zi 81)))
  have HN3 : Hid (X ≠ w3.heap.size ∧ Y ≠ w3.heap.size) := Lib.hid (by have := (HX2.out.after hb3).hi; have := (HM2.out.after hb3).hi; omega)
  obtain ⟨V, hV⟩ : ∃ V, V = w3.heap.size := ⟨_, rfl⟩
  have HVL : Hid (w.heap.size ≤ V) := Lib.hid (by rw [hV]; exact (HX2.out.after hb3).bel.size)
  have HVE := Lib.hid hV
  rw [← hV] at HI HN3
  obtain ⟨w4, hw4⟩ : ∃ w4, w4 = (w3.alloc (.cells zi 81)).setCells V 0 B := ⟨_, rfl⟩
  have HX4 := Lib.hid (HX3.out.other HVL.out HN3.out.1 0 B)
  have HM4 := Lib.hid (HM3.out.other HVL.out HN3.out.2 0 B)
  have HI4 := Lib.hid HI.out.2
  have HTI : Hid ((w3.alloc (.cells zi 81)).there w3.heap.size 0 B.toArray.size) := Lib.hid (by rw [← HVE.out, HBZ.out]; exact HI.out.1)
  rw [← hw4] at HX4 HM4 HI4
  have HW4 := Lib.hid hw4
  clear hV hw4 HI hb3
  have HX5 := Lib.hid (HX4.out.set (M := T) (by rw [ZTS.out]))
  have HTX : Hid (w4.there X 0 T.toArray.size) := Lib.hid (by rw [List.size_toArray, ← ZTS.out]; exact HX4.out.th)
  obtain ⟨w5, hw5⟩ : ∃ w5, w5 = w4.setCells X 0 T := ⟨_, rfl⟩
  rw [← hw5] at HX5
  have HW5 := Lib.hid hw5
  have HTS : Hid (T.toArray.size = 84) := Lib.hid (by rw [List.size_toArray, HT.out])
  clear hw5
  cases a <;> cases b
  all_goals
    go_wp2_with (first | ((with_reducible refine alloc_is 81 ?_); refine alloc_arr 81 zi ZI.out ?_) | ((with_reducible refine store_is 81 (.tmp 8) (.tmp 18) ?_); refine store_arr 81 (.tmp 8) (.tmp 18) w3.heap.size 0 B.toArray rfl rfl HTI.out (info_infos (HBZ.out.trans HB.out)) HOB.out ?_; rw [show B.toArray.toList = B from rfl, ← HVE.out, ← HW4.out]) | ((with_reducible refine load_is 79 (.tmp 6) ?_); refine load_arr 79 (.tmp 6) Y 0 A _ rfl HM4.out.at0 Try.underlying79 rfl (info_mem HA.out) ?_) | ((with_reducible refine load_is 81 (.tmp 8) ?_); refine load_arr 81 (.tmp 8) V 0 B _ rfl HI4.out.at0 Try.underlying81 rfl (info_infos HB.out) ?_) | ((with_reducible refine buildp_is 83 #[(0, .tmp 20), (1, .tmp 21)] ?_); refine build_run2 83 (.tmp 20) (.tmp 21) (.agg A.toArray) (.agg B.toArray) rfl rfl T.toArray HBT.out ?_) | ((with_reducible refine store_is 83 (.tmp 4) (.tmp 22) ?_); refine store_arr 83 (.tmp 4) (.tmp 22) X 0 T.toArray rfl rfl HTX.out (info_tables HTS.out) HOT.out ?_; rw [show T.toArray.toList = T from rfl, ← HW5.out]) | fail)
    refine bodyPost_ret (results_cell_mid rfl _ _ X 0 T _ rfl HX5.out.at0 Try.underlying83 rfl (info_tables HT.out)) rfl ?_
    exact ⟨rfl, HX5.out.bel⟩
end Go.Proofs.Yticnfekjbknomaa
/- The rule for a table, as the program makes it. -/
namespace Go.Proofs.Yticnfekjbknomaa
open Go.ChangeShapes Go.WideShapes Go.ChangeAt Go.RowKit Go.Maps
set_option linter.unusedVariables false
set_option linter.unusedSimpArgs false

theorem zero_rule (w : World) : (zeroValue 89).run Try.prog w = .ok (.agg Z39.toArray) w := Try.zeroValue89 w
theorem Z39_len : Z39.length = 39 := rfl
theorem Z39_one : Z39.toArray.all (·.oneCell') = true := by kernel_rfl
theorem grown_set9 (w : World) (B : Nat) (C : List Value) : w.grownBy (w.drew.setCells B 0 C) (some B) := by
  have h := Below.setCells (Below.refl B w) B (Nat.le_refl _) C 0 w.drew ((Below.refl _ _).drew)
  exact ⟨h.os, h.tape, h.output, h.size, fun i hi hne => (heap_setCells_other w B C 0 w.drew i (fun e => hne (by rw [e])))⟩
def rok8 (f k : Int) (rs : List Bs) : Bool := rvs rs && (inR f 0 11 && isTab k)
/-- a rule and whether there is one -/
def RuleR (zs : List IV) (f k : Int) (rs : List Bs) (w : World) (e : Ending) (w' : World) : Prop :=
  ∃ C : List Value, e = .returned (.tuple #[.agg C.toArray, .bool (rok8 f k rs)]) ∧ C.length = 39 ∧ C.toArray.all (·.oneCell') = true ∧ (rok8 f k rs = true → ∃ b, C = rcC zs f (tneeds k) (some b) ∧ SetAt w' b rs) ∧ Below w.heap.size w w'
set_option maxRecDepth 100000 in
set_option maxHeartbeats 2000000 in
theorem rule_any (w : World) (xss : List (List Int)) (zs : List IV) (hz : zs.length = 12) (vr : Value) (rs : List Bs) (f k : Int) (hr : Strs w vr rs) (hs : Short rs) :
    Calls Try.prog 69 #[.agg (tC xss zs).toArray, .int .i64 f, .int .i64 k, vr] w (RuleR zs f k rs w) := by
  have HSO : Hid (∀ w', Below w.heap.size w w' → Calls Try.prog 76 #[vr] w' (SetOf rs w')) := Lib.hid (fun w' hb => setOf_any w' vr rs (hr.below hb) hs)
  have HBL : Hid (∀ w, Calls Try.prog 82 #[.int .i64 f, .int .i64 12] w (Says (inR f 0 11) w)) := Lib.hid (fun w => ibelow_any w f 12)
  have HIT := Lib.hid (fun w => isTable_any w k)
  have HTN := Lib.hid (fun w => tneeds_any w k)
  have HT : Hid ((tC xss zs).length = 84) := Lib.hid (tC_len xss hz)
  have HB : Hid ((isC zs).length = 36) := Lib.hid (isC_36 hz)
  have HRB := Lib.hid (fun n m w => run_build_rule (isC zs) HB.out f n m w)
  have HOO : Hid (∀ n m, (isC zs ++ [Value.int .i64 f, Value.int .i64 n, Value.map m]).toArray.all (·.oneCell') = true) := Lib.hid (fun n m => rcC_one zs f n m)
  have HTI : Hid (∀ (W : World) b, W.rangeAt b 0 (tC xss zs) → W.rangeAt b 48 (isC zs)) := Lib.hid (fun W b h => range_right h (by rw [mC_len]))
  unfold RuleR rok8 rcC
  unfold SetOf at HSO
  have ZR := Lib.hid zero_rule
  have RZ := Lib.hid run_zero_rule
  have ZRS := Lib.hid Z39_len
  have ZRO := Lib.hid Z39_one
  obtain ⟨zr, hzr⟩ : ∃ z, z = Z39 := ⟨_, rfl⟩
  rw [← hzr] at ZR RZ ZRS ZRO
  obtain ⟨T, hT⟩ : ∃ T, T = tC xss zs := ⟨_, rfl⟩
  rw [← hT] at HT HTI ⊢
  obtain ⟨B, hB⟩ : ∃ B, B = isC zs := ⟨_, rfl⟩
  rw [← hB] at HB HRB HTI HOO ⊢
  obtain ⟨nd, hnd⟩ : ∃ n, n = tneeds k := ⟨_, rfl⟩
  rw [← hnd] at HTN ⊢
  obtain ⟨r1, hr1⟩ : ∃ r, r = rvs rs := ⟨_, rfl⟩
  obtain ⟨r2, hr2⟩ : ∃ r, r = inR f 0 11 := ⟨_, rfl⟩
  obtain ⟨r3, hr3⟩ : ∃ r, r = isTab k := ⟨_, rfl⟩
  rw [← hr1] at HSO ⊢
  rw [← hr2] at HBL ⊢
  rw [← hr3] at HIT ⊢
  have HV0 := Lib.hid ((VarL.new T 83 (Below.refl w.heap.size w)).after ((Below.refl _ _).alloc (Nat.le_refl _) (.cells zr.toArray 89)))
  have HV1 := Lib.hid (VarL.new zr 89 ((Below.refl w.heap.size w).alloc (Nat.le_refl _) (.cells T.toArray 83)))
  clear hT hB hnd hr1 hr2 hr3 hzr hr hs hz
  go_enter Try.func69, Try.ntmps69
  go_wp2_with (first | ((with_reducible refine box_is 83 (.tmp 0) ?_); refine box_arr 83 (.tmp 0) T.toArray rfl ?_) | ((with_reducible refine alloc_is 89 ?_); refine alloc_arr 89 zr.toArray ZR.out ?_) | fail)
  refine (HSO.out _ HV1.out.bel).mono ?_
  rintro e w1 ⟨hb1, m, rfl, hm⟩
  have HM := Lib.hid hm
  have HV2 := Lib.hid (HV0.out.after hb1)
  have HR2 := Lib.hid (HV1.out.after hb1)
  obtain ⟨X, hX⟩ : ∃ X, X = w.heap.size := ⟨_, rfl⟩
  rw [World.size_alloc, ← hX] at HR2
  rw [← hX] at HV2 ⊢
  have HXE := Lib.hid hX
  have HR3 := Lib.hid (HR2.out.set (M := zr) rfl)
  obtain ⟨w2, hw2⟩ : ∃ w2, w2 = w1.setCells (X + 1) 0 zr := ⟨_, rfl⟩
  have HW2 := Lib.hid hw2
  rw [← hw2] at HR3
  have HTH : Hid (w1.there (X + 1) 0 zr.toArray.size) := Lib.hid (by rw [List.size_toArray]; exact HR2.out.th)
  have ZRZ : Hid (zr.toArray.size = 39) := Lib.hid (by rw [List.size_toArray, ZRS.out])
  clear hb1 hm HV0 HV1 hX hw2
  cases r1 with
  | false =>
    go_wp2_with (first | ((with_reducible refine build_is 89 ?_); refine build_run0 89 zr.toArray RZ.out ?_) | ((with_reducible refine store_is 89 (.tmp 8) (.tmp 29) ?_); refine store_arr 89 (.tmp 8) (.tmp 29) (X + 1) 0 zr.toArray rfl rfl HTH.out (info_rule ZRZ.out) ZRO.out ?_; rw [show zr.toArray.toList = zr from rfl, ← HW2.out]) | fail)
    refine bodyPost_ret (results_cell_mid rfl _ _ (X + 1) 0 zr _ rfl HR3.out.at0 Try.underlying89 rfl (info_rule ZRS.out)) rfl ?_
    exact ⟨zr, rfl, ZRS.out, ZRO.out, fun h => by simp at h, HR3.out.bel⟩
  | true =>
    cases r2 with
    | false =>
      go_wp2_with fail
      refine (HBL.out _).mono ?_
      rintro e w' ⟨rfl, rfl⟩
      go_wp2_with (first | ((with_reducible refine build_is 89 ?_); refine build_run0 89 zr.toArray RZ.out ?_) | ((with_reducible refine store_is 89 (.tmp 8) (.tmp 29) ?_); refine store_arr 89 (.tmp 8) (.tmp 29) (X + 1) 0 zr.toArray rfl rfl HTH.out (info_rule ZRZ.out) ZRO.out ?_; rw [show zr.toArray.toList = zr from rfl, ← HW2.out]) | fail)
      refine bodyPost_ret (results_cell_mid rfl _ _ (X + 1) 0 zr _ rfl HR3.out.at0 Try.underlying89 rfl (info_rule ZRS.out)) rfl ?_
      exact ⟨zr, rfl, ZRS.out, ZRO.out, fun h => by simp at h, HR3.out.bel⟩
    | true =>
      cases r3 with
      | false =>
        go_wp2_with fail
        refine (HBL.out _).mono ?_
        rintro e w' ⟨rfl, rfl⟩
        go_wp2_with fail
        refine (HIT.out _).mono ?_
        rintro e w' ⟨rfl, rfl⟩
        go_wp2_with (first | ((with_reducible refine build_is 89 ?_); refine build_run0 89 zr.toArray RZ.out ?_) | ((with_reducible refine store_is 89 (.tmp 8) (.tmp 29) ?_); refine store_arr 89 (.tmp 8) (.tmp 29) (X + 1) 0 zr.toArray rfl rfl HTH.out (info_rule ZRZ.out) ZRO.out ?_; rw [show zr.toArray.toList = zr from rfl, ← HW2.out]) | fail)
        refine bodyPost_ret (results_cell_mid rfl _ _ (X + 1) 0 zr _ rfl HR3.out.at0 Try.underlying89 rfl (info_rule ZRS.out)) rfl ?_
        exact ⟨zr, rfl, ZRS.out, ZRO.out, fun h => by simp at h, HR3.out.bel⟩
      | true =>
        go_wp2_with fail
        refine (HBL.out _).mono ?_
        rintro e w' ⟨rfl, rfl⟩
        go_wp2_with fail
        refine (HIT.out _).mono ?_
        rintro e w' ⟨rfl, rfl⟩
        go_wp2_with fail
        obtain ⟨b, rfl, hb0, hset⟩ := HM.out trivial
        have HSE := Lib.hid hset
        have HRBB := Lib.hid (HRB.out nd (some b))
        obtain ⟨C, hC⟩ : ∃ C, C = B ++ [Value.int .i64 f, Value.int .i64 nd, Value.map (some b)] := ⟨_, rfl⟩
        rw [← hC] at HRBB
        have HCL : Hid (C.length = zr.length) := Lib.hid (by rw [hC, List.length_append, HB.out, ZRS.out]; rfl)
        have HOC : Hid (C.toArray.all (·.oneCell') = true) := Lib.hid (by rw [hC]; exact HOO.out nd (some b))
        have HCE := Lib.hid hC
        clear hC HM
        have HR4 := Lib.hid ((HR2.out.after (Below.refl _ _).drew).set (M := C) HCL.out)
        have HTH2 : Hid (w1.drew.there (X + 1) 0 C.toArray.size) := Lib.hid (by rw [List.size_toArray, HCL.out]; exact there_blocks HR2.out.th rfl)
        have HCZ : Hid (C.toArray.size = 39) := Lib.hid (by rw [List.size_toArray, HCL.out, ZRS.out])
        have HS5 : Hid (SetAt (w1.drew.setCells (X + 1) 0 C) b rs) := Lib.hid (HSE.out.kept (row := some (X + 1)) (grown_set9 w1 (X + 1) C) (by have h1 := HXE.out; have h2 := hb0; rw [World.size_alloc, World.size_alloc] at h2; intro e; injection e with e; omega))
        have HT0 : Hid (w1.rangeAt X 48 B) := Lib.hid (HTI.out _ _ HV2.out.at0)
        refine wp_region_held_drew (S := fun w' => w'.rangeAt X 48 B) (by kernel_rfl) HT0.out (fun hHeld => ?_)
        refine wpAnyH_take (i := 0) (oi := { dst := some 30, op := .fieldAddr 83 (.tmp 4) 1, type := _, pos := _, after := _, guard := none }) (v := .pointer (some ⟨X, 48, none⟩)) rfl (by kernel_rfl) (by kernel_rfl) (by kernel_rfl) (fun _ _ _ h => h) (Or.inl ⟨by rfl, fun wh hSw => ?_⟩) hHeld ?_
        · (dsimp only at hSw; go_simp)
        try simp only [Act.put, List.setIfInBounds_toArray, List.set_cons_zero, List.set_cons_succ]
        refine wpAnyH_take (i := 1) (oi := { dst := some 31, op := .load 81 (.tmp 30), type := _, pos := _, after := _, guard := none }) (v := .agg B.toArray) rfl (by kernel_rfl) (by kernel_rfl) (by kernel_rfl) (fun _ _ _ h => h) (Or.inl ⟨by rfl, fun wh hSw => ?_⟩) hHeld ?_
        · (simp only [execOp]; exact load_run 81 X 48 B _ hSw Try.underlying81 rfl (info_infos HB.out))
        try simp only [Act.put, List.setIfInBounds_toArray, List.set_cons_zero, List.set_cons_succ]
        refine wpAnyH_take (i := 2) (oi := { dst := some 32, op := .move (.tmp 1), type := _, pos := _, after := _, guard := none }) (v := .int .i64 f) rfl (by kernel_rfl) (by kernel_rfl) (by kernel_rfl) (fun _ _ _ h => h) (Or.inl ⟨by rfl, fun wh hSw => ?_⟩) hHeld ?_
        · (dsimp only at hSw; go_simp)
        try simp only [Act.put, List.setIfInBounds_toArray, List.set_cons_zero, List.set_cons_succ]
        refine wpAnyH_take (i := 3) (oi := { dst := some 33, op := .move (.tmp 2), type := _, pos := _, after := _, guard := none }) (v := .int .i64 k) rfl (by kernel_rfl) (by kernel_rfl) (by kernel_rfl) (fun _ _ _ h => h) (Or.inl ⟨by rfl, fun wh hSw => ?_⟩) hHeld ?_
        · (dsimp only at hSw; go_simp)
        try simp only [Act.put, List.setIfInBounds_toArray, List.set_cons_zero, List.set_cons_succ]
        refine wpAnyH_take (i := 5) (oi := { dst := some 35, op := .move (.tmp 10), type := _, pos := _, after := _, guard := none }) (v := .map (some b)) rfl (by kernel_rfl) (by kernel_rfl) (by kernel_rfl) (fun _ _ _ h => h) (Or.inl ⟨by rfl, fun wh hSw => ?_⟩) hHeld ?_
        · (dsimp only at hSw; go_simp)
        try simp only [Act.put, List.setIfInBounds_toArray, List.set_cons_zero, List.set_cons_succ]
        refine wpAnyH_ready (rs := [4]) (by kernel_rfl) (by simp) ?_
        refine AllReadyH.cons (o := { dst := some 34, op := .call { callee := .value (.func 21), args := #[.tmp 33], argTypes := #[3] }, type := _, pos := _, after := _, guard := none }) rfl (fun K hK => ?_) AllReadyH.nil
        go_simp
        refine (HTN.out _).mono ?_
        rintro e w' ⟨rfl, rfl⟩
        try go_simp
        refine hK.out _ _ ?_ (fun hHeld => ?_)
        · exact hHeld
        clear hK K
        try simp only [Act.put, List.setIfInBounds_toArray, List.set_cons_zero, List.set_cons_succ]
        refine wpAnyH_take (i := 6) (oi := { dst := some 36, op := .build 89 #[(0, .tmp 31), (1, .tmp 32), (2, .tmp 34), (3, .tmp 35)], type := _, pos := _, after := _, guard := none }) (v := .agg C.toArray) rfl (by kernel_rfl) (by kernel_rfl) (by kernel_rfl) (fun _ _ _ h => h) (Or.inl ⟨by rfl, fun wh hSw => ?_⟩) hHeld ?_
        · (simp only [execOp, List.map_toArray, List.map_cons, List.map_nil]; exact build_val _ _ _ (HRBB.out _))
        try simp only [Act.put, List.setIfInBounds_toArray, List.set_cons_zero, List.set_cons_succ]
        refine wpAnyH_ready (rs := [7]) (by kernel_rfl) (by simp) ?_
        refine AllReadyH.cons (o := { dst := none, op := .store 89 (.tmp 8) (.tmp 36), type := _, pos := _, after := _, guard := none }) rfl (fun K hK => ?_) AllReadyH.nil
        rw [if_pos (by rfl)]
        refine wp_store_mid 89 (.tmp 8) (.tmp 36) rfl (X + 1) 0 C.toArray rfl rfl HTH2.out (info_rule HCZ.out) HOC.out ?_
        rw [show C.toArray.toList = C from rfl]
        refine hK.out _ _ ?_ (fun hHeld => ?_)
        · exact range_blocks hHeld (heap_setCells_other w1 _ _ _ _ _ (by omega))
        clear hK K
        try simp only [Act.put, List.setIfInBounds_toArray, List.set_cons_zero, List.set_cons_succ]
        refine wpAnyH_take (i := 8) (oi := { dst := some 9, op := .assign (.const (.bool true)), type := _, pos := _, after := _, guard := none }) (v := .bool true) rfl (by kernel_rfl) (by kernel_rfl) (by kernel_rfl) (fun _ _ _ h => h) (Or.inl ⟨by rfl, fun wh hSw => ?_⟩) hHeld ?_
        · (dsimp only at hSw; go_simp)
        try simp only [Act.put, List.setIfInBounds_toArray, List.set_cons_zero, List.set_cons_succ]
        refine wpAnyH_done (by kernel_rfl) ?_ _
        go_wp2_with fail
        refine bodyPost_ret (results_cell_mid rfl _ _ (X + 1) 0 C _ rfl HR4.out.at0 Try.underlying89 rfl (info_rule (HCL.out.trans ZRS.out))) rfl ?_
        exact ⟨C, rfl, HCL.out.trans ZRS.out, HOC.out, fun _ => ⟨b, HCE.out, HS5.out⟩, HR4.out.bel⟩
end Go.Proofs.Yticnfekjbknomaa
/- How the program counts the uses of all frames. -/
namespace Go.Proofs.Yticnfekjbknomaa
open Go.ChangeShapes Go.WideShapes Go.ChangeAt Go.RowKit
set_option linter.unusedVariables false
set_option linter.unusedSimpArgs false

/-- twelve numbers as cells -/
def uC (u : Nat → Int) : List Value := (List.range 12).map (fun i => Value.int .i64 (u i))
theorem uC_len (u : Nat → Int) : (uC u).length = 12 := by simp [uC]
theorem uC_get (u : Nat → Int) {i : Nat} (hi : i < 12) : (uC u)[i]? = some (.int .i64 (u i)) := by simp [uC, hi]
theorem uC_one (u : Nat → Int) : (uC u).toArray.all (·.oneCell') = true := all_oneCell_toArray (fun v hv => by
  unfold uC at hv
  obtain ⟨i, _, rfl⟩ := List.mem_map.1 hv
  rfl)
theorem Us.range {w : World} {b : Nat} {u : Nat → Int} (h : Us w b u) : w.rangeAt b 0 (uC u) := fun j v hv => by
  have hj : j < 12 := by have := (List.getElem?_eq_some_iff.1 hv).1; rwa [uC_len] at this
  rw [uC_get u hj] at hv
  cases hv
  rw [Nat.zero_add]
  exact (h j hj).1
theorem Us.of_range {w : World} {b : Nat} {u : Nat → Int} (h : w.rangeAt b 0 (uC u)) (ht : w.there b 0 12) : Us w b u := fun i hi => by
  have h1 := h i _ (uC_get u hi)
  have h2 := (ht i hi).2
  rw [Nat.zero_add] at h1 h2
  exact ⟨h1, h2⟩
theorem zero_uses (w : World) : (zeroValue 106).run Try.prog w = .ok (.agg (uC (fun _ => 0)).toArray) w := Try.zeroValue106 w
theorem info_uses {n : Nat} (h : n = 12) : (Try.prog.info? 106).map (·.size) = some n := by subst h; kernel_rfl
theorem mC_get {xss : List (List Int)} (hm : memOk xss = true) {i j : Nat} (hi : i < 12) (hj : j < 4) : (mC xss)[i * 4 + j]? = some (.int .i64 (wd xss i j)) := by
  rw [mC_ok hm]
  have h := flat_get xss (fun k hk => mem_row hm (by rw [mem_len hm] at hk; exact hk)) (by rw [mem_len hm]; exact hi) hj
  exact h
theorem row_range {xss : List (List Int)} {ys : List IV} {W : World} {X : Nat} (hm : memOk xss = true) (h : W.rangeAt X 0 (tC xss ys)) {t : Nat} (ht : t < 12) : W.rangeAt X (t * 4) ((xss.getD t []).map (Value.int .i64)) := fun j v hv => by
  have hj : j < 4 := by have := (List.getElem?_eq_some_iff.1 hv).1; rwa [List.length_map, mem_row hm ht] at this
  have h1 := range_left h (t * 4 + j) _ (mC_get hm ht hj)
  rw [Nat.zero_add] at h1
  rw [h1, ← hv, List.getElem?_map, List.getElem?_eq_getElem (by rw [mem_row hm ht]; exact hj)]
  unfold wd
  rw [getD_lt (by rw [mem_row hm ht]; exact hj)]
  rfl
theorem cnt1_le {row : List Int} (h4 : row.length = 4) (f : Nat) : cnt1 row f ≤ 4 := by
  unfold cnt1
  exact Nat.le_trans List.count_le_length (by rw [← h4]; exact named_len row)
theorem cntN_le4 {xss : List (List Int)} {ys : List IV} (hm : memOk xss = true) (f : Nat) : ∀ n, n ≤ 12 → cntN xss ys f n ≤ 4 * n
  | 0, _ => by simp [cntN]
  | n + 1, h => by
    have := cntN_le4 (ys := ys) hm f n (by omega)
    have := cnt1_le (mem_row hm (show n < 12 by omega)) f
    unfold cntN
    split <;> omega
def cu (xss : List (List Int)) (ys : List IV) (t : Nat) : Nat → Int := fun f => (cntN xss ys f t : Int)
theorem cu_yes {xss : List (List Int)} {ys : List IV} {t : Nat} (h : isTab (ys.getD t iz).k = true) (f : Nat) : cu xss ys (t + 1) f = cu xss ys t f + (cnt1 (xss.getD t []) f : Int) := by
  show ((cntN xss ys f t + (if isTab (ys.getD t iz).k = true then cnt1 (xss.getD t []) f else 0) : Nat) : Int) = (cntN xss ys f t : Int) + _
  rw [if_pos h]; omega
theorem cu_no {xss : List (List Int)} {ys : List IV} {t : Nat} (h : isTab (ys.getD t iz).k = false) (f : Nat) : cu xss ys (t + 1) f = cu xss ys t f := by
  show ((cntN xss ys f t + (if isTab (ys.getD t iz).k = true then cnt1 (xss.getD t []) f else 0) : Nat) : Int) = (cntN xss ys f t : Int)
  rw [if_neg (by rw [h]; simp)]; omega
theorem VarL.chg {w W W2 : World} {B lo hi : Nat} {L : List Value} (h : VarL w B L W) (c : Chg lo hi W W2) (hlo : w.heap.size ≤ lo) (hB : B < lo ∨ hi ≤ B) : VarL w B L W2 := by
  have e := c.block B h.hi hB
  exact ⟨Below.chg h.bel c h.bel.size (.inl hlo), h.lo, Nat.lt_of_lt_of_le h.hi c.size, range_blocks h.at0 e, there_blocks h.th e⟩
def ArrU (u : Nat → Int) (w : World) (e : Ending) (w' : World) : Prop := e = .returned (.agg (uC u).toArray) ∧ Below w.heap.size w w'
set_option maxRecDepth 100000 in
set_option maxHeartbeats 4000000 in
theorem count_any (w : World) (xss : List (List Int)) (ys : List IV) (hm : memOk xss = true) (hi : isok ys = true) :
    Calls Try.prog 84 #[.agg (tC xss ys).toArray] w (ArrU (cu xss ys 12) w) := by
  have hz := isok_len hi
  have ZU := Lib.hid zero_uses
  have HT : Hid ((tC xss ys).length = 84) := Lib.hid (tC_len xss hz)
  have HB : Hid ((isC ys).length = 36) := Lib.hid (isC_36 hz)
  have HTI : Hid (∀ (W : World) b, W.rangeAt b 0 (tC xss ys) → W.rangeAt b 48 (isC ys)) := Lib.hid (fun W b h => range_right h (by rw [mC_len]))
  have HTR : Hid (∀ (W : World) X t, t < 12 → W.rangeAt X 0 (tC xss ys) → W.rangeAt X (t * 4) ((xss.getD t []).map (Value.int .i64))) := Lib.hid (fun W X t ht h => row_range hm h ht)
  have HR4 : Hid (∀ t, t < 12 → (xss.getD t []).length = 4 ∧ ∀ i, i < 4 → 0 ≤ (xss.getD t []).getD i 0 ∧ (xss.getD t []).getD i 0 ≤ 9999) := Lib.hid (fun t ht => ⟨mem_row hm ht, fun i hi => mem_word hm ht hi⟩)
  have HCB : Hid (∀ t, t ≤ 12 → ∀ i, i < 12 → 0 ≤ cu xss ys t i ∧ cu xss ys t i ≤ 90000) := Lib.hid (fun t ht i _ => by
    have := cntN_le4 (ys := ys) hm i t ht
    show 0 ≤ (cntN xss ys i t : Int) ∧ (cntN xss ys i t : Int) ≤ 90000
    omega)
  have HXI : Hid (∀ k : Nat, k < 12 → ∀ W, (Instr.index 81 (.agg (isC ys).toArray) (.int .i64 k)).run Try.prog W = .ok (ivV (ys.getD k iz)) W) := Lib.hid (fun k hk W => index_infos ys hz hk W)
  obtain ⟨T, hT⟩ : ∃ T, T = tC xss ys := ⟨_, rfl⟩
  obtain ⟨B, hB⟩ : ∃ B, B = isC ys := ⟨_, rfl⟩
  rw [← hT] at HT HTI HTR ⊢
  rw [← hB] at HB HTI HXI
  have ZC : Hid (∀ w : World, w.rangeAt 0 0 [] → True) := Lib.hid (fun _ _ => trivial)
  obtain ⟨zu, hzu⟩ : ∃ z, z = uC (fun _ => 0) := ⟨_, rfl⟩
  have HZU := Lib.hid hzu
  rw [← hzu] at ZU
  have HZL : Hid (zu.length = 12) := Lib.hid (by rw [hzu]; exact uC_len _)
  obtain ⟨X, hX⟩ : ∃ X, X = w.heap.size := ⟨_, rfl⟩
  have h1 := VarL.new T 83 (Below.refl w.heap.size w)
  have h2 := VarL.new zu 106 h1.bel
  have h3 := VarL.new zu 106 h2.bel
  have HV0 := Lib.hid ((h1.after ((Below.refl _ _).alloc (Nat.le_refl _) (.cells zu.toArray 106))).after ((Below.refl _ _).alloc (Nat.le_refl _) (.cells zu.toArray 106)))
  have HV1 := Lib.hid (h2.after ((Below.refl _ _).alloc (Nat.le_refl _) (.cells zu.toArray 106)))
  have HV2 := Lib.hid h3
  clear h1 h2 h3 hT hB hzu ZC
  have HIT := Lib.hid (fun w k => isTable_any w k)
  obtain ⟨R, hR⟩ : ∃ R, R = ArrU (cu xss ys 12) w := ⟨_, rfl⟩
  have HRR : Hid (∀ w', Below w.heap.size w w' → R (.returned (.agg (uC (cu xss ys 12)).toArray)) w') := Lib.hid (fun w' h => by rw [hR]; exact ⟨rfl, h⟩)
  rw [← hR]
  clear hR hm hi hz
  go_enter Try.func84, Try.ntmps84
  obtain ⟨w0, hw0⟩ : ∃ w0, w0 = ((w.alloc (.cells T.toArray 83)).alloc (.cells zu.toArray 106)).alloc (.cells zu.toArray 106) := ⟨_, rfl⟩
  rw [← hw0] at HV0 HV1 HV2
  rw [World.size_alloc] at HV1
  rw [World.size_alloc, World.size_alloc] at HV2
  rw [← hX] at HV0 HV1 HV2
  have HXE := Lib.hid hX
  have HW0 := Lib.hid hw0
  clear hw0 hX
  go_wp2_with (first | ((with_reducible refine box_is 83 (.tmp 0) ?_); refine box_arr 83 (.tmp 0) T.toArray rfl ?_) | ((with_reducible refine alloc_is 106 ?_); refine alloc_arr 106 zu.toArray ZU.out ?_) | ((with_reducible refine load_is 81 (.tmp 6) ?_); refine load_arr 81 (.tmp 6) w.heap.size 48 B _ rfl (by rw [← HW0.out, ← HXE.out]; exact HTI.out _ _ HV0.out.at0) Try.underlying81 rfl (info_infos HB.out) ?_) | fail)
  rw [← HW0.out, ← HXE.out]
  have HU0 : Hid (Us w0 (X + 1 + 1) (cu xss ys 0)) := Lib.hid (Us.of_range (by have := HV2.out.at0; rw [HZU.out] at this; exact this) (by have := HV2.out.th; rwa [HZL.out] at this))
  go_loopw [8] (fun i wr => ∃ t : Nat, t ≤ 12 ∧ i = .int .i64 t ∧ Hid (Us wr (X + 1 + 1) (cu xss ys t)) ∧ Hid (Chg (X + 1 + 1) (X + 1 + 1 + 1) w0 wr)) (fun i _ => 12 - (intOf i).toNat)
  case atStart => exact ⟨0, Nat.zero_le _, rfl, HU0, Lib.hid (Chg.of_bel (Below.refl _ _))⟩
  case round =>
    obtain ⟨t, ht, rfl, HUW, HCW⟩ := hrel
    have HVW := Lib.hid (HV0.out.chg HCW.out (by rw [HXE.out]; omega) (.inl (by omega)))
    by_cases hlt : t < 12
    · have hlt' : (t : Int) < 12 := by omega
      have hlt0 : (0 : Int) ≤ (t : Int) := by omega
      have HIX' := HXI.out t hlt
      have HXM := run_indexAt_arr (P := Try.prog) 79 12 77 4 Try.underlying79 size_words (by omega) X t hlt
      obtain ⟨y, hy⟩ : ∃ y, y = ys.getD t iz := ⟨_, rfl⟩
      rw [← hy] at HIX'
      have HY := Lib.hid hy
      obtain ⟨r, hr⟩ : ∃ r, r = isTab y.k := ⟨_, rfl⟩
      have HIT' : Hid (∀ w, Calls Try.prog 91 #[.int .i64 y.k] w (Says r w)) := Lib.hid (fun w => by rw [hr]; exact HIT.out w y.k)
      have HRE := Lib.hid hr
      have HAB : Hid (∀ o, Below wr.heap.size wr (wr.alloc o)) := Lib.hid (fun o => (Below.refl _ _).alloc (Nat.le_refl _) _)
      clear hy hr
      go_wp2_with fail
      refine (HIT'.out _).mono ?_
      rintro e w' ⟨rfl, rfl⟩
      obtain ⟨w1, hw1⟩ : ∃ w1, w1 = wr.alloc (.cells #[.int .i64 y.k, .string ⟨y.g.toArray⟩, .int .i64 y.r] 36) := ⟨_, rfl⟩
      have HB1 : Hid (Below wr.heap.size wr w1) := Lib.hid (by rw [hw1]; exact HAB.out _)
      rw [← hw1]
      clear hw1 HAB HIT'
      have HVX := Lib.hid (HVW.out.after HB1.out)
      have HUX := Lib.hid (HUW.out.block (HB1.out.block _ HUW.out.lt))
      have HCX := Lib.hid (HCW.out.trans (Chg.of_bel HB1.out))
      cases r with
      | true =>
        have HRW := Lib.hid (HTR.out w1 X t hlt HVX.out.at0)
        have HWC := Lib.hid (wordsCount_any w1 (X + 1 + 1) _ (xss.getD t []) (HR4.out t hlt).1 (HR4.out t hlt).2 HUX.out (HCB.out t (by omega)))
        have HNX : Hid (∀ w', Us w' (X + 1 + 1) (fun i => cu xss ys t i + (cnt1 (xss.getD t []) i : Int)) → Us w' (X + 1 + 1) (cu xss ys (t + 1))) := Lib.hid (fun w' hh => hh.ext (fun j hj => cu_yes (by rw [← HY.out]; exact HRE.out.symm) j))
        unfold rowC at HWC
        have HLW : Hid (((xss.getD t []).map (Value.int .i64)).length = 4) := Lib.hid (by rw [List.length_map]; exact (HR4.out t hlt).1)
        obtain ⟨M, hM⟩ : ∃ M, M = (xss.getD t []).map (Value.int .i64) := ⟨_, rfl⟩
        rw [← hM] at HRW HWC HLW
        have HIW : Hid ((Try.prog.info? 77).map (·.size) = some M.length) := Lib.hid (by rw [HLW.out]; exact info_words)
        clear hM
        go_wp2_with (first | ((with_reducible refine load_is 77 (.tmp 17) ?_); refine load_arr 77 (.tmp 17) X (t * 4) M _ rfl HRW.out Try.underlying77 rfl HIW.out ?_) | fail)
        refine HWC.out.mono ?_
        rintro e w5 ⟨rfl, hu5, hc5⟩
        have HU5 := Lib.hid (HNX.out w5 hu5)
        have HC5 := Lib.hid (HCX.out.trans hc5)
        clear hu5 hc5
        go_wp2_with fail
        go_roundw
        case rel => exact ⟨t + 1, by omega, by go_num, HU5, HC5⟩
        case measure => simp [intOf]; omega
      | false =>
        have HU5 : Hid (Us w1 (X + 1 + 1) (cu xss ys (t + 1))) := Lib.hid (HUX.out.ext (fun j hj => cu_no (by rw [← HY.out]; exact HRE.out.symm) j))
        go_wp2_with fail
        go_roundw
        case rel => exact ⟨t + 1, by omega, by go_num, HU5, HCX⟩
        case measure => simp [intOf]; omega
    · have e : t = 12 := by omega
      subst e
      have HW1 := Lib.hid (HV1.out.chg HCW.out (by rw [HXE.out]; omega) (.inl (by omega)))
      have HUR := Lib.hid HUW.out.range
      have HUL : Hid ((uC (cu xss ys 12)).length = 12) := Lib.hid (uC_len _)
      have HUO : Hid ((uC (cu xss ys 12)).toArray.all (·.oneCell') = true) := Lib.hid (uC_one _)
      obtain ⟨U, hU⟩ : ∃ U, U = uC (cu xss ys 12) := ⟨_, rfl⟩
      rw [← hU] at HUR HUL HUO HRR
      have HW2 := Lib.hid (HW1.out.set (M := U) (by rw [HUL.out, HZL.out]))
      have HTH : Hid (wr.there (X + 1) 0 U.toArray.size) := Lib.hid (by rw [List.size_toArray, HUL.out, ← HZL.out]; exact HW1.out.th)
      have HUZ : Hid (U.toArray.size = 12) := Lib.hid (by rw [List.size_toArray, HUL.out])
      obtain ⟨w5, hw5⟩ : ∃ w5, w5 = wr.setCells (X + 1) 0 U := ⟨_, rfl⟩
      rw [← hw5] at HW2
      have HW5 := Lib.hid hw5
      clear hU hw5
      go_wp2_with (first | ((with_reducible refine load_is 106 (.tmp 3) ?_); refine load_arr 106 (.tmp 3) (X + 1 + 1) 0 U _ rfl HUR.out Try.underlying106 rfl (info_uses HUL.out) ?_) | ((with_reducible refine store_is 106 (.tmp 2) (.tmp 21) ?_); refine store_arr 106 (.tmp 2) (.tmp 21) (X + 1) 0 U.toArray rfl rfl HTH.out (info_uses HUZ.out) HUO.out ?_; rw [show U.toArray.toList = U from rfl, ← HW5.out]) | fail)
      refine bodyPost_ret (results_one_mid rfl _ _ (X + 1) 0 U _ rfl HW2.out.at0 Try.underlying106 rfl (info_uses HUL.out)) rfl ?_
      exact HRR.out _ HW2.out.bel
end Go.Proofs.Yticnfekjbknomaa
/- How the program changes a kind and the uses that the words of a frame make. -/
namespace Go.Proofs.Yticnfekjbknomaa
open Go.ChangeShapes Go.WideShapes Go.ChangeAt Go.RowKit
set_option linter.unusedVariables false
set_option linter.unusedSimpArgs false

/-- what is known of twelve frames, in a block -/
def Kv (w : World) (b : Nat) (v : Nat → IV) : Prop := ∀ i, i < 12 → TriW w b (i * 3) (v i)
theorem Kv.block {w w' : World} {b : Nat} {v : Nat → IV} (h : Kv w b v) (e : w'.heap[b]? = w.heap[b]?) : Kv w' b v := fun i hi => (h i hi).block e
theorem Kv.lt {w : World} {b : Nat} {v : Nat → IV} (h : Kv w b v) : b < w.heap.size := (h 0 (by omega)).at3.lt
theorem Kv.ext {w : World} {b : Nat} {u v : Nat → IV} (h : Kv w b u) (e : ∀ i, i < 12 → v i = u i) : Kv w b v := fun i hi => by rw [e i hi]; exact h i hi
theorem Kv.set0 {w : World} {b : Nat} {v : Nat → IV} (h : Kv w b v) {k : Nat} (hk : k < 12) (n : Int) : Kv (w.setCell ⟨b, k * 3, none⟩ (.int .i64 n)) b (fun i => if i = k then ⟨n, (v k).g, (v k).r⟩ else v i) := fun i hi => by
  by_cases e : i = k
  · subst e
    show TriW _ _ _ (if i = i then _ else _)
    rw [if_pos rfl]
    exact (h i hi).set0 n
  · show TriW _ _ _ (if i = k then _ else _)
    rw [if_neg e]
    exact (h i hi).off (.inr (by omega)) _
theorem Kv.set2 {w : World} {b : Nat} {v : Nat → IV} (h : Kv w b v) {k : Nat} (hk : k < 12) (n : Int) : Kv (w.setCell ⟨b, k * 3 + 2, none⟩ (.int .i64 n)) b (fun i => if i = k then ⟨(v k).k, (v k).g, n⟩ else v i) := fun i hi => by
  by_cases e : i = k
  · subst e
    show TriW _ _ _ (if i = i then _ else _)
    rw [if_pos rfl]
    exact (h i hi).set2 n
  · show TriW _ _ _ (if i = k then _ else _)
    rw [if_neg e]
    exact (h i hi).off (.inr (by omega)) _
theorem Kv.is {w : World} {b : Nat} {xs : List IV} (h : Kv w b (fun i => xs.getD i iz)) (hl : xs.length = 12) : Is w (.slice (some ⟨b, 0, none⟩) 12 12) xs :=
  ⟨_, 12, by rw [hl], by omega, by unfold maxLen; omega, fun i hi => ⟨b, 0, rfl, by rw [Nat.zero_add]; exact (h i (by omega)).at3⟩⟩
theorem Kv.new {w : World} {b : Nat} {xs : List IV} (hl : xs.length = 12) (h : w.rangeAt b 0 (isC xs)) (ht : w.there b 0 36) : Kv w b (fun i => xs.getD i iz) := fun i hi =>
  ⟨tri_of_range h (by omega), fun j hj => by have := (ht (i * 3 + j) (by omega)).2; rwa [Nat.zero_add] at this⟩
/-- the list with another kind, and with more or fewer uses -/
def chL (xss : List (List Int)) (ys : List IV) (f : Nat) (k sg : Int) : List IV := addL sg (setK ys f k) (named (xss.getD f []))
theorem chL_len (xss : List (List Int)) (ys : List IV) (f : Nat) (k sg : Int) : (chL xss ys f k sg).length = ys.length := by unfold chL; rw [addL_len, setK_len]
theorem chL_get {xss : List (List Int)} {ys : List IV} {f : Nat} {k sg : Int} (hl : ys.length = 12) (hf : f < 12) (j : Nat) : (chL xss ys f k sg).getD j iz = ⟨if j = f then k else (ys.getD j iz).k, (ys.getD j iz).g, (ys.getD j iz).r + sg * (cnt1 (xss.getD f []) j : Int)⟩ := by
  unfold chL
  rw [addL_get sg _ _ j (fun g hg => by rw [setK_len]; exact named_ok hl g hg), setK_get (by omega)]
  rfl
def kvt (xss : List (List Int)) (ys : List IV) (f : Nat) (k sg : Int) (t : Nat) : Nat → IV := fun i => if i < t then (chL xss ys f k sg).getD i iz else ⟨if i = f then k else (ys.getD i iz).k, (ys.getD i iz).g, (ys.getD i iz).r⟩
theorem kvt_step {xss : List (List Int)} {ys : List IV} {f : Nat} {k sg : Int} (hl : ys.length = 12) (hf : f < 12) (t i : Nat) : kvt xss ys f k sg (t + 1) i = if i = t then ⟨(kvt xss ys f k sg t t).k, (kvt xss ys f k sg t t).g, (ys.getD t iz).r + sg * (cnt1 (xss.getD f []) t : Int)⟩ else kvt xss ys f k sg t i := by
  unfold kvt
  by_cases e : i = t
  · subst e
    rw [if_pos rfl, if_pos (by omega), if_neg (by omega), chL_get hl hf]
  · rw [if_neg e]
    by_cases h : i < t
    · rw [if_pos h, if_pos (by omega)]
    · rw [if_neg h, if_neg (by omega)]
theorem kvt_self (xss : List (List Int)) (ys : List IV) (f : Nat) (k sg : Int) (t : Nat) : (kvt xss ys f k sg t t).r = (ys.getD t iz).r := by
  unfold kvt
  rw [if_neg (by omega)]
theorem uses_index (u : Nat → Int) {t : Nat} (ht : t < 12) (W : World) : (Instr.index 106 (.agg (uC u).toArray) (.int .i64 t)).run Try.prog W = .ok (.int .i64 (u t)) W := by
  rcases (by omega : t = 0 ∨ t = 1 ∨ t = 2 ∨ t = 3 ∨ t = 4 ∨ t = 5 ∨ t = 6 ∨ t = 7 ∨ t = 8 ∨ t = 9 ∨ t = 10 ∨ t = 11) with rfl | rfl | rfl | rfl | rfl | rfl | rfl | rfl | rfl | rfl | rfl | rfl <;> kernel_rfl
theorem iok_refs {x : IV} (h : iok x = true) : 0 ≤ x.r ∧ x.r ≤ 50 := by
  by_cases h0 : x.k = 0
  · rw [iok_free h h0]; decide
  · exact (iok_used h h0).2.2
theorem chL_short {xss : List (List Int)} {ys : List IV} {f : Nat} {k sg : Int} (hl : ys.length = 12) (hf : f < 12) (hs : ShortI ys) : ShortI (chL xss ys f k sg) := fun x hx => by
  obtain ⟨i, hi, rfl⟩ := List.mem_iff_getElem.1 hx
  have e := chL_get (xss := xss) (k := k) (sg := sg) hl hf i
  rw [getD_lt hi] at e
  rw [e]
  exact hs.at i
theorem VarL.one {w W : World} {B C : Nat} {L : List Value} (h : VarL w B L W) (hc : w.heap.size ≤ C) (hne : B ≠ C) (o : Nat) (v : Value) : VarL w B L (W.setCell ⟨C, o, none⟩ v) := h.other hc hne o [v]
set_option maxRecDepth 100000 in
set_option maxHeartbeats 4000000 in
theorem changed_any (w : World) (xss : List (List Int)) (ys : List IV) (hm : memOk xss = true) (hi : isok ys = true) (hs : ShortI ys) (f : Nat) (hf : f < 12) (k sg : Int) (hsg : sg = 1 ∨ sg = -1) :
    Calls Try.prog 88 #[.agg (tC xss ys).toArray, .int .i64 f, .int .i64 k, .int .i64 sg] w (ArrI (arrOf (chL xss ys f k sg)) (isok (chL xss ys f k sg)) w) := by
  have hz := isok_len hi
  have ZU := Lib.hid zero_uses
  have ZI := Lib.hid zero_infos
  have HT : Hid ((tC xss ys).length = 84) := Lib.hid (tC_len xss hz)
  have HB : Hid ((isC ys).length = 36) := Lib.hid (isC_36 hz)
  have HBO : Hid ((isC ys).toArray.all (·.oneCell') = true) := Lib.hid (isC_all ys)
  have HTI : Hid (∀ (W : World) b, W.rangeAt b 0 (tC xss ys) → W.rangeAt b 48 (isC ys)) := Lib.hid (fun W b h => range_right h (by rw [mC_len]))
  have HTR : Hid (∀ (W : World) X, W.rangeAt X 0 (tC xss ys) → W.rangeAt X (f * 4) ((xss.getD f []).map (Value.int .i64))) := Lib.hid (fun W X h => row_range hm h hf)
  have HKN : Hid (∀ (W : World) b, W.rangeAt b 0 (isC ys) → W.there b 0 36 → Kv W b (fun i => ys.getD i iz)) := Lib.hid (fun W b h ht => Kv.new hz h ht)
  have HWC : Hid (∀ w b, Us w b (fun _ => 0) → Calls Try.prog 114 #[.agg ((xss.getD f []).map (Value.int .i64)).toArray, .pointer (some ⟨b, 0, none⟩)] w (Cnt b (fun i => 0 + (cnt1 (xss.getD f []) i : Int)) w)) := Lib.hid (fun w b h => wordsCount_any w b _ _ (mem_row hm hf) (fun i hi => mem_word hm hf hi) h (fun _ _ => by omega))
  have HLM : Hid (((xss.getD f []).map (Value.int .i64)).length = 4) := Lib.hid (by rw [List.length_map]; exact mem_row hm hf)
  have HCB : Hid (∀ i, 0 ≤ (cnt1 (xss.getD f []) i : Int) ∧ (cnt1 (xss.getD f []) i : Int) ≤ 4) := Lib.hid (fun i => by have := cnt1_le (mem_row hm hf) i; omega)
  have HRB : Hid (∀ t, t < 12 → 0 ≤ (ys.getD t iz).r ∧ (ys.getD t iz).r ≤ 50) := Lib.hid (fun t ht => iok_refs (isok_at hi (by omega)))
  have HST : Hid (∀ t i, kvt xss ys f k sg (t + 1) i = if i = t then ⟨(kvt xss ys f k sg t t).k, (kvt xss ys f k sg t t).g, (ys.getD t iz).r + sg * (cnt1 (xss.getD f []) t : Int)⟩ else kvt xss ys f k sg t i) := Lib.hid (fun t i => kvt_step hz hf t i)
  have HSR : Hid (∀ t, (kvt xss ys f k sg t t).r = (ys.getD t iz).r) := Lib.hid (fun t => kvt_self xss ys f k sg t)
  have HK0 : Hid (∀ i, kvt xss ys f k sg 0 i = if i = f then ⟨k, (ys.getD f iz).g, (ys.getD f iz).r⟩ else ys.getD i iz) := Lib.hid (fun i => by
    unfold kvt
    rw [if_neg (by omega)]
    by_cases e : i = f
    · rw [if_pos e, if_pos e, e]
    · rw [if_neg e, if_neg e])
  have HIO : Hid (∀ W b, Kv W b (kvt xss ys f k sg 12) → Calls Try.prog 90 #[.slice (some ⟨b, 0, none⟩) 12 12] W (ArrI (arrOf (chL xss ys f k sg)) (isok (chL xss ys f k sg)) W)) := Lib.hid (fun W b h => infosOf_any W _ _ ((h.ext (fun i hi => by unfold kvt; rw [if_pos hi])).is (by rw [chL_len, hz])) (chL_short hz hf hs))
  have HAL : Hid ((isC (arrOf (chL xss ys f k sg))).length = 36) := Lib.hid (isC_36 (arrOf_len _))
  have HAO : Hid ((isC (arrOf (chL xss ys f k sg))).toArray.all (·.oneCell') = true) := Lib.hid (isC_all _)
  unfold ArrI at HIO ⊢
  obtain ⟨A, hA⟩ : ∃ A, A = isC (arrOf (chL xss ys f k sg)) := ⟨_, rfl⟩
  obtain ⟨r, hr⟩ : ∃ r, r = isok (chL xss ys f k sg) := ⟨_, rfl⟩
  rw [← hA, ← hr] at HIO ⊢
  rw [← hA] at HAL HAO
  obtain ⟨T, hT⟩ : ∃ T, T = tC xss ys := ⟨_, rfl⟩
  rw [← hT] at HT HTI HTR ⊢
  obtain ⟨B, hB⟩ : ∃ B, B = isC ys := ⟨_, rfl⟩
  rw [← hB] at HB HBO HTI HKN
  obtain ⟨M, hM⟩ : ∃ M, M = (xss.getD f []).map (Value.int .i64) := ⟨_, rfl⟩
  rw [← hM] at HTR HWC HLM
  obtain ⟨c, hc⟩ : ∃ c : Nat → Int, c = (fun i => (cnt1 (xss.getD f []) i : Int)) := ⟨_, rfl⟩
  have hce : ∀ i, (cnt1 (xss.getD f []) i : Int) = c i := fun i => by rw [hc]
  simp only [hce] at HCB HST HWC
  obtain ⟨q, hq⟩ : ∃ q : Nat → Int, q = (fun i => (ys.getD i iz).r) := ⟨_, rfl⟩
  have hqe : ∀ i, (ys.getD i iz).r = q i := fun i => by rw [hq]
  simp only [hqe] at HRB HST HSR
  obtain ⟨v, hv⟩ : ∃ v : Nat → Nat → IV, v = kvt xss ys f k sg := ⟨_, rfl⟩
  rw [← hv] at HST HSR HK0 HIO
  obtain ⟨y0, hy0⟩ : ∃ y0 : Nat → IV, y0 = (fun i => ys.getD i iz) := ⟨_, rfl⟩
  have hye : ∀ i, ys.getD i iz = y0 i := fun i => by rw [hy0]
  rw [← hy0] at HKN
  simp only [hye] at HK0
  obtain ⟨zu, hzu⟩ : ∃ z, z = uC (fun _ => 0) := ⟨_, rfl⟩
  have HZU := Lib.hid hzu
  rw [← hzu] at ZU
  have HZL : Hid (zu.length = 12) := Lib.hid (by rw [hzu]; exact uC_len _)
  obtain ⟨zi, hzi⟩ : ∃ z, z = isC z12 := ⟨_, rfl⟩
  rw [← hzi] at ZI
  have HZI : Hid (zi.length = 36) := Lib.hid (by rw [hzi]; exact isC_36 z12_len)
  have HIW : Hid ((Try.prog.info? 77).map (·.size) = some M.length) := Lib.hid (by rw [HLM.out]; exact info_words)
  have HXI := run_indexAt_off (P := Try.prog) 81 12 36 3 Try.underlying81 size_info (by omega)
  have HXJ := Lib.hid HXI
  obtain ⟨X, hX⟩ : ∃ X, X = w.heap.size := ⟨_, rfl⟩
  have HXM := run_indexAt_arr (P := Try.prog) 79 12 77 4 Try.underlying79 size_words (by omega) w.heap.size f hf
  have h1 := VarL.new T 83 (Below.refl w.heap.size w)
  have h2 := VarL.new zi 81 h1.bel
  have h3 := VarL.new zu 106 h2.bel
  have HV0 := Lib.hid ((h1.after ((Below.refl _ _).alloc (Nat.le_refl _) (.cells zi.toArray 81))).after ((Below.refl _ _).alloc (Nat.le_refl _) (.cells zu.toArray 106)))
  have HV1 := Lib.hid (h2.after ((Below.refl _ _).alloc (Nat.le_refl _) (.cells zu.toArray 106)))
  have HV2 := Lib.hid h3
  have hf0 : (0 : Int) ≤ (f : Int) := by omega
  have hf1 : (f : Int) < 12 := by omega
  have HF := Lib.hid hf
  clear h1 h2 h3 hT hB hzu hzi hM hc hce hq hqe hv hA hr hy0 hye hm hi hz hs hf HXI
  rcases hsg with rfl | rfl
  · go_enter Try.func88, Try.ntmps88
    obtain ⟨w0, hw0⟩ : ∃ w0, w0 = ((w.alloc (.cells T.toArray 83)).alloc (.cells zi.toArray 81)).alloc (.cells zu.toArray 106) := ⟨_, rfl⟩
    rw [← hw0] at HV0 HV1 HV2
    rw [World.size_alloc] at HV1
    rw [World.size_alloc, World.size_alloc] at HV2
    rw [← hX] at HV0 HV1 HV2
    have HXE := Lib.hid hX
    have HW0 := Lib.hid hw0
    clear hw0 hX
    go_wp2_with (first | ((with_reducible refine box_is 83 (.tmp 0) ?_); refine box_arr 83 (.tmp 0) T.toArray rfl ?_) | ((with_reducible refine alloc_is 106 ?_); refine alloc_arr 106 zu.toArray ZU.out ?_) | ((with_reducible refine alloc_is 81 ?_); refine alloc_arr 81 zi.toArray ZI.out ?_) | ((with_reducible refine load_is 77 (.tmp 16) ?_); refine load_arr 77 (.tmp 16) w.heap.size (f * 4) M _ rfl (by rw [← HW0.out, ← HXE.out]; exact HTR.out _ _ HV0.out.at0) Try.underlying77 rfl HIW.out ?_) | fail)
    rw [← HW0.out, ← HXE.out]
    have HU0 : Hid (Us w0 (X + 1 + 1) (fun _ => 0)) := Lib.hid (Us.of_range (by have := HV2.out.at0; rw [HZU.out] at this; exact this) (by have := HV2.out.th; rwa [HZL.out] at this))
    refine (HWC.out _ _ HU0.out).mono ?_
    rintro e w5 ⟨rfl, hu5, hc5⟩
    have HU5 : Hid (Us w5 (X + 1 + 1) c) := Lib.hid (hu5.ext (fun i _ => by omega))
    have HT5 := Lib.hid (HV0.out.chg hc5 (by rw [HXE.out]; omega) (.inl (by omega)))
    have HR5 := Lib.hid (HV1.out.chg hc5 (by rw [HXE.out]; omega) (.inl (by omega)))
    have HX5 : Hid (X + 1 + 1 < w5.heap.size) := Lib.hid HU5.out.lt
    have HL5 : Hid (w.heap.size ≤ w5.heap.size) := Lib.hid HT5.out.bel.size
    have HM5 := Lib.hid (VarL.make (Z := zi.toArray) (L := B) 81 HT5.out.bel (by rw [List.size_toArray, HZI.out, HB.out]))
    have HRA := Lib.hid ((HR5.out.after ((Below.refl _ _).alloc (Nat.le_refl _) (.cells zi.toArray 81))).other HL5.out (by have := HX5.out; omega) 0 B)
    have HUA : Hid (Us ((w5.alloc (.cells zi.toArray 81)).setCells w5.heap.size 0 B) (X + 1 + 1) c) := Lib.hid (HU5.out.block ((heap_setCells_other (w5.alloc (.cells zi.toArray 81)) _ _ _ _ _ (by have := HX5.out; omega)).trans (heap_alloc_old w5 _ HX5.out)))
    clear hu5 hc5
    obtain ⟨K, hK⟩ : ∃ K, K = w5.heap.size := ⟨_, rfl⟩
    rw [← hK] at HM5 HRA HUA HX5 HL5
    obtain ⟨w6, hw6⟩ : ∃ w6, w6 = (w5.alloc (.cells zi.toArray 81)).setCells K 0 B := ⟨_, rfl⟩
    rw [← hw6] at HM5 HRA HUA
    have HKE := Lib.hid hK
    have HW6 := Lib.hid hw6
    have HTH : Hid ((w5.alloc (.cells zi.toArray 81)).there w5.heap.size 0 B.toArray.size) := Lib.hid (by rw [← HKE.out, List.size_toArray]; exact HM5.out.1)
    have HBZ : Hid (B.toArray.size = 36) := Lib.hid (by rw [List.size_toArray, HB.out])
    have HKV : Hid (Kv w6 K y0) := Lib.hid (HKN.out _ _ HM5.out.2.at0 (by have := HM5.out.2.th; rwa [HB.out] at this))
    have HIXF := HXJ.out K 0 f HF.out
    simp only [Nat.zero_add] at HIXF
    have c0 := (HKV.out f HF.out).at3.c0
    have fr0 := (HKV.out f HF.out).fr 0 (by omega)
    rw [Nat.add_zero] at fr0
    have HK7 : Hid (Kv (w6.setCell ⟨K, f * 3, none⟩ (.int .i64 k)) K (v 0)) := Lib.hid ((HKV.out.set0 HF.out k).ext (fun i _ => HK0.out i))
    have HU7 : Hid (Us (w6.setCell ⟨K, f * 3, none⟩ (.int .i64 k)) (X + 1 + 1) c) := Lib.hid (HUA.out.block (heap_setCells_other w6 K [.int .i64 k] (f * 3) _ _ (by have := HX5.out; omega)))
    have HR7 := Lib.hid (HRA.out.one HL5.out (by have := HX5.out; omega) (f * 3) (.int .i64 k))
    have HUR := Lib.hid HU7.out.range
    have HUL : Hid ((uC c).length = 12) := Lib.hid (uC_len _)
    have HXU : Hid (∀ t : Nat, t < 12 → ∀ W, (Instr.index 106 (.agg (uC c).toArray) (.int .i64 t)).run Try.prog W = .ok (.int .i64 (c t)) W) := Lib.hid (fun t ht W => uses_index c ht W)
    obtain ⟨U, hU⟩ : ∃ U, U = uC c := ⟨_, rfl⟩
    rw [← hU] at HUR HUL HXU
    obtain ⟨w7, hw7⟩ : ∃ w7, w7 = w6.setCell ⟨K, f * 3, none⟩ (.int .i64 k) := ⟨_, rfl⟩
    have HW7 := Lib.hid hw7
    rw [← hw7] at HK7 HU7 HR7
    clear hU hK hw6 hw7 HXM
    go_wp2_with (first | ((with_reducible refine alloc_is 81 ?_); refine alloc_arr 81 zi.toArray ZI.out ?_) | ((with_reducible refine load_is 81 (.tmp 19) ?_); refine load_arr 81 (.tmp 19) X 48 B _ rfl (HTI.out _ _ HT5.out.at0) Try.underlying81 rfl (info_infos HB.out) ?_) | ((with_reducible refine store_is 81 (.tmp 11) (.tmp 20) ?_); refine store_arr 81 (.tmp 11) (.tmp 20) w5.heap.size 0 B.toArray rfl rfl HTH.out (info_infos HBZ.out) HBO.out ?_; rw [show B.toArray.toList = B from rfl, ← HKE.out, ← HW6.out]) | ((with_reducible refine load_is 106 (.tmp 10) ?_); refine load_arr 106 (.tmp 10) (X + 1 + 1) 0 U _ rfl HUR.out Try.underlying106 rfl (info_uses HUL.out) ?_) | fail)
    rw [← HW7.out]
    go_loopw [26] (fun i wr => ∃ t : Nat, t ≤ 12 ∧ i = .int .i64 t ∧ Hid (Kv wr K (v t)) ∧ Hid (Chg K (K + 1) w7 wr)) (fun i _ => 12 - (intOf i).toNat)
    case atStart => exact ⟨0, Nat.zero_le _, rfl, HK7, Lib.hid (Chg.of_bel (Below.refl _ _))⟩
    case round =>
      obtain ⟨t, ht, rfl, HKW, HCW⟩ := hrel
      by_cases hlt : t < 12
      · have hlt' : (t : Int) < 12 := by omega
        have hlt0 : (0 : Int) ≤ (t : Int) := by omega
        have hXU := HXU.out t hlt
        have HIXT := HXJ.out K 0 t hlt
        simp only [Nat.zero_add] at HIXT
        have c2 := (HKW.out t hlt).at3.c2
        rw [HSR.out] at c2
        have fr2 := (HKW.out t hlt).fr 2 (by omega)
        have hqb := HRB.out t hlt
        have hcb := HCB.out t
        obtain ⟨a, ha⟩ : ∃ a, a = q t := ⟨_, rfl⟩
        obtain ⟨m, hm⟩ : ∃ m, m = c t := ⟨_, rfl⟩
        have HNX := Lib.hid (fun n (hn : n = q t + (1 : Int) * c t) => ((HKW.out.set2 hlt n).ext (fun i _ => by rw [HST.out t i, hn] : ∀ i, i < 12 → v (t + 1) i = _)))
        have HCN := Lib.hid (fun n => HCW.out.trans (chg_setCell wr K (t * 3 + 2) (.int .i64 n)))
        rw [← ha] at c2 hqb HNX
        rw [← hm] at hXU hcb HNX
        clear ha hm
        go_wp2_with fail
        go_roundw
        case rel => exact ⟨t + 1, by omega, by go_num, Lib.hid (HNX.out _ (by omega)), Lib.hid (HCN.out _)⟩
        case measure => simp [intOf]; omega
      · have e : t = 12 := by omega
        subst e
        have HCI := Lib.hid (HIO.out wr K HKW.out)
        have HSL := slice_infos K
        have HR8 := Lib.hid (HR7.out.chg HCW.out (by have := HL5.out; omega) (.inl (by have := HX5.out; omega)))
        go_wp2_with fail
        refine HCI.out.mono ?_
        rintro e w9 ⟨rfl, hb9⟩
        have HR9 := Lib.hid (HR8.out.after hb9)
        have HRX := Lib.hid (HR9.out.set (M := A) (by rw [HAL.out, HZI.out]))
        have HTR9 : Hid (w9.there (X + 1) 0 A.toArray.size) := Lib.hid (by rw [List.size_toArray, HAL.out, ← HZI.out]; exact HR9.out.th)
        have HAZ : Hid (A.toArray.size = 36) := Lib.hid (by rw [List.size_toArray, HAL.out])
        obtain ⟨wF, hwF⟩ : ∃ wF, wF = w9.setCells (X + 1) 0 A := ⟨_, rfl⟩
        rw [← hwF] at HRX
        have HWF := Lib.hid hwF
        clear hwF hb9
        go_wp2_with (first | ((with_reducible refine store_is 81 (.tmp 8) (.tmp 43) ?_); refine store_arr 81 (.tmp 8) (.tmp 43) (X + 1) 0 A.toArray rfl rfl HTR9.out (info_infos HAZ.out) HAO.out ?_; rw [show A.toArray.toList = A from rfl, ← HWF.out]) | fail)
        refine bodyPost_ret (results_cell_mid rfl _ _ (X + 1) 0 A _ rfl HRX.out.at0 Try.underlying81 rfl (info_infos HAL.out)) rfl ?_
        exact ⟨rfl, HRX.out.bel⟩
  · go_enter Try.func88, Try.ntmps88
    obtain ⟨w0, hw0⟩ : ∃ w0, w0 = ((w.alloc (.cells T.toArray 83)).alloc (.cells zi.toArray 81)).alloc (.cells zu.toArray 106) := ⟨_, rfl⟩
    rw [← hw0] at HV0 HV1 HV2
    rw [World.size_alloc] at HV1
    rw [World.size_alloc, World.size_alloc] at HV2
    rw [← hX] at HV0 HV1 HV2
    have HXE := Lib.hid hX
    have HW0 := Lib.hid hw0
    clear hw0 hX
    go_wp2_with (first | ((with_reducible refine box_is 83 (.tmp 0) ?_); refine box_arr 83 (.tmp 0) T.toArray rfl ?_) | ((with_reducible refine alloc_is 106 ?_); refine alloc_arr 106 zu.toArray ZU.out ?_) | ((with_reducible refine alloc_is 81 ?_); refine alloc_arr 81 zi.toArray ZI.out ?_) | ((with_reducible refine load_is 77 (.tmp 16) ?_); refine load_arr 77 (.tmp 16) w.heap.size (f * 4) M _ rfl (by rw [← HW0.out, ← HXE.out]; exact HTR.out _ _ HV0.out.at0) Try.underlying77 rfl HIW.out ?_) | fail)
    rw [← HW0.out, ← HXE.out]
    have HU0 : Hid (Us w0 (X + 1 + 1) (fun _ => 0)) := Lib.hid (Us.of_range (by have := HV2.out.at0; rw [HZU.out] at this; exact this) (by have := HV2.out.th; rwa [HZL.out] at this))
    refine (HWC.out _ _ HU0.out).mono ?_
    rintro e w5 ⟨rfl, hu5, hc5⟩
    have HU5 : Hid (Us w5 (X + 1 + 1) c) := Lib.hid (hu5.ext (fun i _ => by omega))
    have HT5 := Lib.hid (HV0.out.chg hc5 (by rw [HXE.out]; omega) (.inl (by omega)))
    have HR5 := Lib.hid (HV1.out.chg hc5 (by rw [HXE.out]; omega) (.inl (by omega)))
    have HX5 : Hid (X + 1 + 1 < w5.heap.size) := Lib.hid HU5.out.lt
    have HL5 : Hid (w.heap.size ≤ w5.heap.size) := Lib.hid HT5.out.bel.size
    have HM5 := Lib.hid (VarL.make (Z := zi.toArray) (L := B) 81 HT5.out.bel (by rw [List.size_toArray, HZI.out, HB.out]))
    have HRA := Lib.hid ((HR5.out.after ((Below.refl _ _).alloc (Nat.le_refl _) (.cells zi.toArray 81))).other HL5.out (by have := HX5.out; omega) 0 B)
    have HUA : Hid (Us ((w5.alloc (.cells zi.toArray 81)).setCells w5.heap.size 0 B) (X + 1 + 1) c) := Lib.hid (HU5.out.block ((heap_setCells_other (w5.alloc (.cells zi.toArray 81)) _ _ _ _ _ (by have := HX5.out; omega)).trans (heap_alloc_old w5 _ HX5.out)))
    clear hu5 hc5
    obtain ⟨K, hK⟩ : ∃ K, K = w5.heap.size := ⟨_, rfl⟩
    rw [← hK] at HM5 HRA HUA HX5 HL5
    obtain ⟨w6, hw6⟩ : ∃ w6, w6 = (w5.alloc (.cells zi.toArray 81)).setCells K 0 B := ⟨_, rfl⟩
    rw [← hw6] at HM5 HRA HUA
    have HKE := Lib.hid hK
    have HW6 := Lib.hid hw6
    have HTH : Hid ((w5.alloc (.cells zi.toArray 81)).there w5.heap.size 0 B.toArray.size) := Lib.hid (by rw [← HKE.out, List.size_toArray]; exact HM5.out.1)
    have HBZ : Hid (B.toArray.size = 36) := Lib.hid (by rw [List.size_toArray, HB.out])
    have HKV : Hid (Kv w6 K y0) := Lib.hid (HKN.out _ _ HM5.out.2.at0 (by have := HM5.out.2.th; rwa [HB.out] at this))
    have HIXF := HXJ.out K 0 f HF.out
    simp only [Nat.zero_add] at HIXF
    have c0 := (HKV.out f HF.out).at3.c0
    have fr0 := (HKV.out f HF.out).fr 0 (by omega)
    rw [Nat.add_zero] at fr0
    have HK7 : Hid (Kv (w6.setCell ⟨K, f * 3, none⟩ (.int .i64 k)) K (v 0)) := Lib.hid ((HKV.out.set0 HF.out k).ext (fun i _ => HK0.out i))
    have HU7 : Hid (Us (w6.setCell ⟨K, f * 3, none⟩ (.int .i64 k)) (X + 1 + 1) c) := Lib.hid (HUA.out.block (heap_setCells_other w6 K [.int .i64 k] (f * 3) _ _ (by have := HX5.out; omega)))
    have HR7 := Lib.hid (HRA.out.one HL5.out (by have := HX5.out; omega) (f * 3) (.int .i64 k))
    have HUR := Lib.hid HU7.out.range
    have HUL : Hid ((uC c).length = 12) := Lib.hid (uC_len _)
    have HXU : Hid (∀ t : Nat, t < 12 → ∀ W, (Instr.index 106 (.agg (uC c).toArray) (.int .i64 t)).run Try.prog W = .ok (.int .i64 (c t)) W) := Lib.hid (fun t ht W => uses_index c ht W)
    obtain ⟨U, hU⟩ : ∃ U, U = uC c := ⟨_, rfl⟩
    rw [← hU] at HUR HUL HXU
    obtain ⟨w7, hw7⟩ : ∃ w7, w7 = w6.setCell ⟨K, f * 3, none⟩ (.int .i64 k) := ⟨_, rfl⟩
    have HW7 := Lib.hid hw7
    rw [← hw7] at HK7 HU7 HR7
    clear hU hK hw6 hw7 HXM
    go_wp2_with (first | ((with_reducible refine alloc_is 81 ?_); refine alloc_arr 81 zi.toArray ZI.out ?_) | ((with_reducible refine load_is 81 (.tmp 19) ?_); refine load_arr 81 (.tmp 19) X 48 B _ rfl (HTI.out _ _ HT5.out.at0) Try.underlying81 rfl (info_infos HB.out) ?_) | ((with_reducible refine store_is 81 (.tmp 11) (.tmp 20) ?_); refine store_arr 81 (.tmp 11) (.tmp 20) w5.heap.size 0 B.toArray rfl rfl HTH.out (info_infos HBZ.out) HBO.out ?_; rw [show B.toArray.toList = B from rfl, ← HKE.out, ← HW6.out]) | ((with_reducible refine load_is 106 (.tmp 10) ?_); refine load_arr 106 (.tmp 10) (X + 1 + 1) 0 U _ rfl HUR.out Try.underlying106 rfl (info_uses HUL.out) ?_) | fail)
    rw [← HW7.out]
    go_loopw [26] (fun i wr => ∃ t : Nat, t ≤ 12 ∧ i = .int .i64 t ∧ Hid (Kv wr K (v t)) ∧ Hid (Chg K (K + 1) w7 wr)) (fun i _ => 12 - (intOf i).toNat)
    case atStart => exact ⟨0, Nat.zero_le _, rfl, HK7, Lib.hid (Chg.of_bel (Below.refl _ _))⟩
    case round =>
      obtain ⟨t, ht, rfl, HKW, HCW⟩ := hrel
      by_cases hlt : t < 12
      · have hlt' : (t : Int) < 12 := by omega
        have hlt0 : (0 : Int) ≤ (t : Int) := by omega
        have hXU := HXU.out t hlt
        have HIXT := HXJ.out K 0 t hlt
        simp only [Nat.zero_add] at HIXT
        have c2 := (HKW.out t hlt).at3.c2
        rw [HSR.out] at c2
        have fr2 := (HKW.out t hlt).fr 2 (by omega)
        have hqb := HRB.out t hlt
        have hcb := HCB.out t
        obtain ⟨a, ha⟩ : ∃ a, a = q t := ⟨_, rfl⟩
        obtain ⟨m, hm⟩ : ∃ m, m = c t := ⟨_, rfl⟩
        have HNX := Lib.hid (fun n (hn : n = q t + (-1 : Int) * c t) => ((HKW.out.set2 hlt n).ext (fun i _ => by rw [HST.out t i, hn] : ∀ i, i < 12 → v (t + 1) i = _)))
        have HCN := Lib.hid (fun n => HCW.out.trans (chg_setCell wr K (t * 3 + 2) (.int .i64 n)))
        rw [← ha] at c2 hqb HNX
        rw [← hm] at hXU hcb HNX
        clear ha hm
        go_wp2_with fail
        go_roundw
        case rel => exact ⟨t + 1, by omega, by go_num, Lib.hid (HNX.out _ (by omega)), Lib.hid (HCN.out _)⟩
        case measure => simp [intOf]; omega
      · have e : t = 12 := by omega
        subst e
        have HCI := Lib.hid (HIO.out wr K HKW.out)
        have HSL := slice_infos K
        have HR8 := Lib.hid (HR7.out.chg HCW.out (by have := HL5.out; omega) (.inl (by have := HX5.out; omega)))
        go_wp2_with fail
        refine HCI.out.mono ?_
        rintro e w9 ⟨rfl, hb9⟩
        have HR9 := Lib.hid (HR8.out.after hb9)
        have HRX := Lib.hid (HR9.out.set (M := A) (by rw [HAL.out, HZI.out]))
        have HTR9 : Hid (w9.there (X + 1) 0 A.toArray.size) := Lib.hid (by rw [List.size_toArray, HAL.out, ← HZI.out]; exact HR9.out.th)
        have HAZ : Hid (A.toArray.size = 36) := Lib.hid (by rw [List.size_toArray, HAL.out])
        obtain ⟨wF, hwF⟩ : ∃ wF, wF = w9.setCells (X + 1) 0 A := ⟨_, rfl⟩
        rw [← hwF] at HRX
        have HWF := Lib.hid hwF
        clear hwF hb9
        go_wp2_with (first | ((with_reducible refine store_is 81 (.tmp 8) (.tmp 43) ?_); refine store_arr 81 (.tmp 8) (.tmp 43) (X + 1) 0 A.toArray rfl rfl HTR9.out (info_infos HAZ.out) HAO.out ?_; rw [show A.toArray.toList = A from rfl, ← HWF.out]) | fail)
        refine bodyPost_ret (results_cell_mid rfl _ _ (X + 1) 0 A _ rfl HRX.out.at0 Try.underlying81 rfl (info_infos HAL.out)) rfl ?_
        exact ⟨rfl, HRX.out.bel⟩
end Go.Proofs.Yticnfekjbknomaa
/- What pinning and unpinning lead to. -/
namespace Go.Proofs.Yticnfekjbknomaa
set_option linter.unusedVariables false

section
variable {xss : List (List Int)} {ys : List IV} {f k : Int} {rs : List Bs}
theorem targs_iff : (targ xss ys f && (isTab k && rvs rs)) = true ↔ targ xss ys f = true ∧ isTab k = true ∧ rvs rs = true := by
  rw [Bool.and_eq_true, Bool.and_eq_true]
theorem tok8_of (h : targ xss ys f = true ∧ isTab k = true ∧ rvs rs = true) : tok8 xss ys f k rs = tgood xss ys f k rs := by
  unfold tok8
  rw [h.1, h.2.1, h.2.2, Bool.true_and, Bool.true_and, Bool.true_and]
theorem tpin_args (h : (tpin xss ys f k rs).2 ≠ 3) : targ xss ys f = true ∧ isTab k = true ∧ rvs rs = true := by
  unfold tpin at h
  by_cases hc : (targ xss ys f && (isTab k && rvs rs)) = true
  · exact targs_iff.1 hc
  · rw [if_neg hc] at h
    exact absurd rfl h
theorem tpin_eq (h : targ xss ys f = true ∧ isTab k = true ∧ rvs rs = true) : tpin xss ys f k rs =
    if (ys.getD f.toNat iz).k = 1 ∧ (ys.getD f.toNat iz).r ≤ 0 then
      if tgood xss ys f k rs = true then
        if isok (pinL xss ys f k) = true then (pinL xss ys f k, 0) else (ys, 1)
      else (ys, 2)
    else (ys, 1) := by
  unfold tpin
  rw [if_pos (targs_iff.2 h)]
theorem tpin_done (h : (tpin xss ys f k rs).2 = 0) : (targ xss ys f = true ∧ isTab k = true ∧ rvs rs = true) ∧ ((ys.getD f.toNat iz).k = 1 ∧ (ys.getD f.toNat iz).r ≤ 0) ∧ tgood xss ys f k rs = true ∧ isok (pinL xss ys f k) = true ∧ (tpin xss ys f k rs).1 = pinL xss ys f k := by
  have ha := tpin_args (xss := xss) (ys := ys) (f := f) (k := k) (rs := rs) (by omega)
  rw [tpin_eq ha] at h ⊢
  by_cases h1 : (ys.getD f.toNat iz).k = 1 ∧ (ys.getD f.toNat iz).r ≤ 0
  · rw [if_pos h1] at h ⊢
    by_cases h2 : tgood xss ys f k rs = true
    · rw [if_pos h2] at h ⊢
      by_cases h3 : isok (pinL xss ys f k) = true
      · rw [if_pos h3]
        exact ⟨ha, h1, h2, h3, rfl⟩
      · rw [if_neg h3] at h
        exact absurd h (by show ¬ (1 : Int) = 0; decide)
    · rw [if_neg h2] at h
      exact absurd h (by show ¬ (2 : Int) = 0; decide)
  · rw [if_neg h1] at h
    exact absurd h (by show ¬ (1 : Int) = 0; decide)
/-- not invalid: busy where the frame has no data or is used; unchanged where it is not done -/
theorem tpin_busy (h : (tpin xss ys f k rs).2 ≠ 3) : (¬ ((ys.getD f.toNat iz).k = 1 ∧ (ys.getD f.toNat iz).r ≤ 0) → (tpin xss ys f k rs).2 = 1) ∧ ((tpin xss ys f k rs).2 ≠ 0 → (tpin xss ys f k rs).1 = ys) := by
  have ha := tpin_args h
  rw [tpin_eq ha]
  by_cases h1 : (ys.getD f.toNat iz).k = 1 ∧ (ys.getD f.toNat iz).r ≤ 0
  · rw [if_pos h1]
    refine ⟨fun hh => absurd h1 hh, fun hh => ?_⟩
    by_cases h2 : tgood xss ys f k rs = true
    · rw [if_pos h2] at hh ⊢
      by_cases h3 : isok (pinL xss ys f k) = true
      · rw [if_pos h3] at hh; exact absurd rfl hh
      · rw [if_neg h3]
    · rw [if_neg h2]
  · rw [if_neg h1]
    exact ⟨fun _ => rfl, fun _ => rfl⟩
theorem valid_refs (h : targ xss ys f = true) : 0 ≤ (ys.getD f.toNat iz).r := by
  obtain ⟨_, hf, hi⟩ := targ_iff.1 h
  have h1 := isok_at hi (show f.toNat < ys.length by rw [isok_len hi]; omega)
  by_cases h0 : (ys.getD f.toNat iz).k = 0
  · rw [iok_free h1 h0]; decide
  · exact (iok_used h1 h0).2.2.1
theorem tpin_bad (h : (tpin xss ys f k rs).2 ≠ 3) : decide ((tpin xss ys f k rs).2 = 2) = (decide ((ys.getD f.toNat iz).k = 1) && (decide ((ys.getD f.toNat iz).r = 0) && !tok8 xss ys f k rs)) := by
  have ha := tpin_args h
  have hr := valid_refs ha.1
  rw [tpin_eq ha, tok8_of ha]
  by_cases h1 : (ys.getD f.toNat iz).k = 1 ∧ (ys.getD f.toNat iz).r ≤ 0
  · rw [if_pos h1, decide_eq_true h1.1, decide_eq_true (show (ys.getD f.toNat iz).r = 0 by omega), Bool.true_and, Bool.true_and]
    by_cases h2 : tgood xss ys f k rs = true
    · rw [if_pos h2, h2]
      by_cases h3 : isok (pinL xss ys f k) = true
      · rw [if_pos h3]; rfl
      · rw [if_neg h3]; rfl
    · rw [if_neg h2, Bool.eq_false_iff.2 h2]; rfl
  · rw [if_neg h1]
    have : ¬ ((ys.getD f.toNat iz).k = 1 ∧ (ys.getD f.toNat iz).r = 0) := fun hh => h1 ⟨hh.1, by omega⟩
    by_cases hk : (ys.getD f.toNat iz).k = 1
    · rw [decide_eq_true hk, decide_eq_false (fun e => this ⟨hk, e⟩)]; rfl
    · rw [decide_eq_false hk]; rfl
theorem self_none (h : tgood xss ys f k rs = true) (hm : memOk xss = true) (hf : 0 ≤ f ∧ f ≤ 11) : cnt1 (xss.getD f.toNat []) f.toNat = 0 := by
  unfold cnt1
  rw [List.count_eq_zero]
  intro hh
  obtain ⟨x, hx, hg, e⟩ := named_mem hh
  obtain ⟨i, hi, ei⟩ := List.getElem_of_mem hx
  have h4 := mem_row hm (show f.toNat < 12 by omega)
  have ht := tgood_iff.1 h i (by omega)
  have ew : wd xss f.toNat i = x := by unfold wd; rw [getD_lt hi, ei]
  rw [ew] at ht
  exact (tent_good ht hg).1 (by omega)
theorem pin_back (h : (tpin xss ys f k rs).2 = 0) : tunp xss (tpin xss ys f k rs).1 f = (ys, 0) := by
  obtain ⟨ha, h1, h2, h3, e⟩ := tpin_done h
  rw [e]
  obtain ⟨hm, hf, hi⟩ := targ_iff.1 ha.1
  have hr := valid_refs ha.1
  have hl := isok_len hi
  have hs := self_none h2 hm hf
  have hg := pinL_get (xss := xss) (k := k) hl hf
  have hpl := pinL_len xss ys f k
  have eU : unpL xss (pinL xss ys f k) f = ys := by
    refine iv_get_ext (by rw [unpL_len, hpl]) (fun j hj => ?_)
    rw [unpL_get (by omega) hf, hg]
    rw [iv_ext]
    refine ⟨?_, rfl, by show _ + _ - _ = _; omega⟩
    by_cases ej : j = f.toNat
    · rw [if_pos ej, ej]; exact h1.1.symm
    · rw [if_neg ej]
      show (if j = f.toNat then k else (ys.getD j iz).k) = _
      rw [if_neg ej]
  unfold tunp
  rw [if_pos (targ_iff.2 ⟨hm, hf, h3⟩), eU, if_pos hi, if_pos]
  rw [hg, if_pos rfl, hs]
  exact ⟨ha.2.1, by show (ys.getD f.toNat iz).r + ((0 : Nat) : Int) ≤ 0; omega⟩
theorem tunp_args (h : (tunp xss ys f).2 ≠ 3) : targ xss ys f = true := by
  unfold tunp at h
  by_cases hc : targ xss ys f = true
  · exact hc
  · rw [if_neg hc] at h
    exact absurd rfl h
theorem tunp_facts (h : (tunp xss ys f).2 ≠ 3) : (decide ((tunp xss ys f).2 = 1) = (!isTab (ys.getD f.toNat iz).k || decide (0 < (ys.getD f.toNat iz).r))) ∧ ((tunp xss ys f).2 ≠ 0 → (tunp xss ys f).1 = ys) ∧ ((tunp xss ys f).2 = 0 → ((tunp xss ys f).1.getD f.toNat iz).k = 1 ∧ (tunp xss ys f).1.length = ys.length) := by
  have ha := tunp_args h
  obtain ⟨hm, hf, hi⟩ := targ_iff.1 ha
  unfold tunp
  rw [if_pos ha]
  by_cases h1 : isTab (ys.getD f.toNat iz).k = true ∧ (ys.getD f.toNat iz).r ≤ 0
  · rw [if_pos h1, h1.1, decide_eq_false (show ¬ 0 < (ys.getD f.toNat iz).r by omega)]
    by_cases h3 : isok (unpL xss ys f) = true
    · rw [if_pos h3]
      refine ⟨rfl, fun hh => absurd rfl hh, fun _ => ⟨?_, unpL_len _ _ _⟩⟩
      show ((unpL xss ys f).getD f.toNat iz).k = 1
      rw [unpL_get (isok_len hi) hf, if_pos rfl]
    · rw [if_neg h3]
      exact ⟨rfl, fun _ => rfl, fun hh => absurd hh (by show ¬ (2 : Int) = 0; decide)⟩
  · rw [if_neg h1]
    refine ⟨?_, fun _ => rfl, fun hh => absurd hh (by show ¬ (1 : Int) = 0; decide)⟩
    show decide ((1 : Int) = 1) = _
    by_cases ht : isTab (ys.getD f.toNat iz).k = true
    · rw [ht, decide_eq_true (show 0 < (ys.getD f.toNat iz).r from Int.not_le.1 (fun hh => h1 ⟨ht, hh⟩))]; rfl
    · rw [Bool.eq_false_iff.2 ht]; rfl
/-- pinning adds to the uses what it adds to the counts -/
theorem pin_counts (h : (tpin xss ys f k rs).2 = 0) : isok (tpin xss ys f k rs).1 = true ∧ tok8 xss ys f k rs = true ∧ memOk xss = true ∧ isok ys = true ∧ (0 ≤ f ∧ f ≤ 11) ∧ ((tpin xss ys f k rs).1.getD f.toNat iz).k = k ∧
    (∀ j, ((tpin xss ys f k rs).1.getD j iz).g = (ys.getD j iz).g ∧ (j ≠ f.toNat → ((tpin xss ys f k rs).1.getD j iz).k = (ys.getD j iz).k)) ∧
    ∀ j, ((tpin xss ys f k rs).1.getD j iz).r - (ys.getD j iz).r = (cntN xss (tpin xss ys f k rs).1 j 12 : Int) - (cntN xss ys j 12 : Int) := by
  obtain ⟨ha, h1, h2, h3, e⟩ := tpin_done h
  rw [e]
  obtain ⟨hm, hf, hi⟩ := targ_iff.1 ha.1
  have hl := isok_len hi
  have hg := pinL_get (xss := xss) (k := k) hl hf
  refine ⟨h3, by rw [tok8_of ha]; exact h2, hm, hi, hf, by rw [hg, if_pos rfl], fun j => ⟨by rw [hg], fun hj => by rw [hg, if_neg hj]⟩, fun j => ?_⟩
  rw [cntN_pin (f := f.toNat) (ys := ys) (zs := pinL xss ys f k) j (by rw [h1.1]; decide) (by rw [hg, if_pos rfl]; exact ha.2.1) (fun t ht => by rw [hg, if_neg ht]) 12, if_pos (by omega), hg]
  show _ + _ - _ = _
  omega
end
end Go.Proofs.Yticnfekjbknomaa
/- What the program's TableOk and TableCount answer. -/
namespace Go.Proofs.Yticnfekjbknomaa
open Go.ChangeShapes Go.WideShapes Go.ChangeAt Go.RowKit Go.Maps
set_option linter.unusedVariables false
set_option linter.unusedSimpArgs false

theorem grown_setN (w : World) (B : Nat) (C : List Value) : w.grownBy (w.setCells B 0 C) (some B) := by
  have h := Below.setCells (Below.refl B w) B (Nat.le_refl _) C 0 w (Below.refl _ _)
  exact ⟨h.os, h.tape, h.output, h.size, fun i hi hne => (heap_setCells_other w B C 0 w i (fun e => hne (by rw [e])))⟩
theorem rok8_iff {f k : Int} {rs : List Bs} : rok8 f k rs = true ↔ rvs rs = true ∧ (0 ≤ f ∧ f ≤ 11) ∧ isTab k = true := by
  unfold rok8
  rw [Bool.and_eq_true, Bool.and_eq_true, inR_iff]
theorem both_iff {xss : List (List Int)} {ys : List IV} : (memOk xss && isok ys) = true ↔ memOk xss = true ∧ isok ys = true := by rw [Bool.and_eq_true]
theorem args_iff {xss : List (List Int)} {ys : List IV} {f k : Int} {rs : List Bs} : (targ xss ys f = true ∧ isTab k = true ∧ rvs rs = true) ↔ (memOk xss && isok ys) = true ∧ rok8 f k rs = true := by
  rw [both_iff, rok8_iff, targ_iff]
  constructor
  · rintro ⟨⟨a, b, c⟩, d, e⟩; exact ⟨⟨a, c⟩, e, b, d⟩
  · rintro ⟨⟨a, c⟩, e, b, d⟩; exact ⟨⟨a, b, c⟩, d, e⟩
theorem rall_good {xss : List (List Int)} {ys : List IV} {n : Nat} {k : Int} {rs : List Bs} (hk : isTab k = true) : rall ys (n : Int) (tneeds k) (xss.getD n []) rs = tgood xss ys (n : Int) k rs := by
  unfold rall tgood
  congr 1
  funext i
  unfold rwd tent rfr
  rw [Int.toNat_natCast]
  show (if goodB (wd xss n i) then _ else _) = _
  have e : tneeds k = k - 1 := by unfold tneeds; rw [if_pos hk]
  by_cases hg : goodB (wd xss n i)
  · rw [if_pos hg, if_pos hg, e]
    have h := good_frame hg
    show (!decide (((fr (wd xss n i) : Nat) : Int) = (n : Int)) && _) = _
    rw [show ((fr (wd xss n i) : Nat) : Int) = wd xss n i / 4 by unfold fr; omega]
    rfl
  · rw [if_neg hg, if_neg hg]; rfl
theorem tok8_no {xss : List (List Int)} {ys : List IV} {f k : Int} {rs : List Bs} (h : ¬ ((memOk xss && isok ys) = true ∧ rok8 f k rs = true)) : tok8 xss ys f k rs = false := by
  rw [Bool.eq_false_iff]
  intro hh
  have h2 := tok8_iff.1 hh
  exact h (args_iff.1 ⟨h2.1, h2.2.1, h2.2.2.1⟩)
set_option maxRecDepth 100000 in
set_option maxHeartbeats 4000000 in
theorem ito_any : ITO := by
  intro w vm vl vr xss ys rs f k hm hl hs hr hsr
  have HTO := Lib.hid (tablesOf_any w vm vl xss ys hm hl hs)
  have HB : Hid ((isC (arrOf ys)).length = 36) := Lib.hid (isC_36 (arrOf_len ys))
  have HT : Hid ((tC xss (arrOf ys)).length = 84) := Lib.hid (tC_len xss (arrOf_len ys))
  have HTO1 : Hid ((tC xss (arrOf ys)).toArray.all (·.oneCell') = true) := Lib.hid (tC_one _ _)
  have HTI : Hid (∀ (W : World) b, W.rangeAt b 0 (tC xss (arrOf ys)) → W.rangeAt b 48 (isC (arrOf ys))) := Lib.hid (fun W b h => range_right h (by rw [mC_len]))
  have HTR : Hid (memOk xss = true → ∀ (W : World) X t, t < 12 → W.rangeAt X 0 (tC xss (arrOf ys)) → W.rangeAt X (t * 4) ((xss.getD t []).map (Value.int .i64))) := Lib.hid (fun hm W X t ht h => row_range hm h ht)
  have HAY : Hid (isok ys = true → arrOf ys = ys) := Lib.hid arrOf_ok
  have HRU : Hid (∀ w', Below w.heap.size w w' → Calls Try.prog 69 #[.agg (tC xss (arrOf ys)).toArray, .int .i64 f, .int .i64 k, vr] w' (RuleR (arrOf ys) f k rs w')) := Lib.hid (fun w' hb => rule_any w' xss (arrOf ys) (arrOf_len ys) vr rs f k (hr.below hb) hsr)
  have ZR := Lib.hid zero_rule
  obtain ⟨zr, hzr⟩ : ∃ z, z = Z39 := ⟨_, rfl⟩
  rw [← hzr] at ZR
  have HZR : Hid (zr.length = 39) := Lib.hid (by rw [hzr]; rfl)
  unfold ArrT at HTO
  have ZT := Lib.hid zero_tables
  obtain ⟨zt, hzt⟩ : ∃ z, z = Z84 := ⟨_, rfl⟩
  rw [← hzt] at ZT
  have HZT : Hid (zt.length = 84) := Lib.hid (by rw [hzt]; rfl)
  have HFA : Hid (¬ ((memOk xss && isok ys) = true ∧ rok8 f k rs = true) → tok8 xss ys f k rs = false) := Lib.hid tok8_no
  have HTQ : Hid ((memOk xss && isok ys) = true → rok8 f k rs = true → ∃ n : Nat, f = (n : Int) ∧ n < 12 ∧ tok8 xss ys f k rs = rall ys (n : Int) (tneeds k) (xss.getD n []) rs) := Lib.hid (fun h1 h2 => by
    have ha := args_iff.2 ⟨h1, h2⟩
    obtain ⟨h3, h4, h5⟩ := rok8_iff.1 h2
    refine ⟨f.toNat, by omega, by omega, ?_⟩
    rw [tok8_of ha, rall_good h5, show ((f.toNat : Nat) : Int) = f by omega])
  have HAA : Hid (memOk xss = true → isok ys = true → ∀ n : Nat, n < 12 → ∀ W b, SetAt W b rs → Calls Try.prog 70 #[.agg (rcC ys (n : Int) (tneeds k) (some b)).toArray, .agg ((xss.getD n []).map (Value.int .i64)).toArray] W (BRes (rall ys (n : Int) (tneeds k) (xss.getD n []) rs) W)) := Lib.hid (fun h1 h2 n hn W b hset => allowsAll_any W ys (isok_len h2) hs (n : Int) (tneeds k) _ (mem_row h1 hn) (fun i hi => mem_word h1 hn hi) b rs hset)
  have HLM : Hid (memOk xss = true → ∀ n : Nat, n < 12 → ((xss.getD n []).map (Value.int .i64)).length = 4) := Lib.hid (fun h n hn => by rw [List.length_map]; exact mem_row h hn)
  obtain ⟨zs, hzs⟩ : ∃ zs, zs = arrOf ys := ⟨_, rfl⟩
  rw [← hzs] at HTO HB HT HTO1 HTI HTR HAY HRU
  have HZS := Lib.hid hzs
  obtain ⟨T, hT⟩ : ∃ T, T = tC xss zs := ⟨_, rfl⟩
  rw [← hT] at HTO HT HTO1 HTI HTR HRU
  have HTE := Lib.hid hT
  obtain ⟨r1, hr1⟩ : ∃ r, r = (memOk xss && isok ys) := ⟨_, rfl⟩
  rw [← hr1] at HTO
  have HR1 := Lib.hid hr1
  obtain ⟨res, hres⟩ : ∃ r, r = tok8 xss ys f k rs := ⟨_, rfl⟩
  rw [← hres] at HFA HTQ ⊢
  clear hm hl hs hr hsr hzt hzr hzs hT hr1 hres
  rw [← HR1.out] at HFA HTQ
  unfold RuleR at HRU
  obtain ⟨r2, hr2⟩ : ∃ r, r = rok8 f k rs := ⟨_, rfl⟩
  rw [← hr2] at HRU HFA HTQ
  clear hr2
  go_enter Try.func24, Try.ntmps24
  go_wp2_with fail
  refine HTO.out.mono ?_
  rintro e w1 ⟨rfl, hb1⟩
  have HM1 := Lib.hid (VarL.make (Z := zt.toArray) (L := T) 83 hb1 (by rw [List.size_toArray, HZT.out, HT.out]))
  obtain ⟨X, hX⟩ : ∃ X, X = w1.heap.size := ⟨_, rfl⟩
  rw [← hX] at HM1
  obtain ⟨w2, hw2⟩ : ∃ w2, w2 = (w1.alloc (.cells zt.toArray 83)).setCells X 0 T := ⟨_, rfl⟩
  rw [← hw2] at HM1
  have HXE := Lib.hid hX
  have HW2 := Lib.hid hw2
  have HTH : Hid ((w1.alloc (.cells zt.toArray 83)).there w1.heap.size 0 T.toArray.size) := Lib.hid (by rw [← HXE.out, List.size_toArray]; exact HM1.out.1)
  have HTZ : Hid (T.toArray.size = 84) := Lib.hid (by rw [List.size_toArray, HT.out])
  have HV := Lib.hid HM1.out.2
  clear hb1 hX hw2 HM1
  go_wp2_with (first | ((with_reducible refine alloc_is 83 ?_); refine alloc_arr 83 zt.toArray ZT.out ?_) | ((with_reducible refine store_is 83 (.tmp 11) (.tmp 19) ?_); refine store_arr 83 (.tmp 11) (.tmp 19) w1.heap.size 0 T.toArray rfl rfl HTH.out (info_tables HTZ.out) HTO1.out ?_; rw [show T.toArray.toList = T from rfl, ← HXE.out, ← HW2.out]) | ((with_reducible refine load_is 83 (.tmp 11) ?_); refine load_arr 83 (.tmp 11) X 0 T _ rfl HV.out.at0 Try.underlying83 rfl (info_tables HT.out) ?_) | fail)
  refine (HRU.out _ HV.out.bel).mono ?_
  rintro e w3 ⟨C, rfl, hC, hCO, hCR, hb3⟩
  have HCL := Lib.hid hC
  have HCO := Lib.hid hCO
  have HCR := Lib.hid hCR
  have HV3 := Lib.hid (HV.out.after hb3)
  have HM3 := Lib.hid (VarL.make (Z := zr.toArray) (L := C) 89 HV3.out.bel (by rw [List.size_toArray, HZR.out, HCL.out]))
  obtain ⟨Y, hY⟩ : ∃ Y, Y = w3.heap.size := ⟨_, rfl⟩
  have HXY : Hid (X < Y) := Lib.hid (by rw [hY]; exact HV3.out.hi)
  have HYL : Hid (w.heap.size ≤ Y) := Lib.hid (by rw [hY]; exact HV3.out.bel.size)
  have HV4a := Lib.hid ((HV3.out.after ((Below.refl _ _).alloc (Nat.le_refl _) (.cells zr.toArray 89))).other HYL.out (by have := HXY.out; omega) 0 C)
  have HSB : Hid (∀ b, SetAt w3 b rs → SetAt ((w3.alloc (.cells zr.toArray 89)).setCells Y 0 C) b rs) := Lib.hid (fun b h => (h.below ((Below.refl _ _).alloc (Nat.le_refl _) _)).kept (row := some Y) (grown_setN _ Y C) (by have := h.lt; intro e; injection e with e; omega))
  rw [← hY] at HM3
  obtain ⟨w4, hw4⟩ : ∃ w4, w4 = (w3.alloc (.cells zr.toArray 89)).setCells Y 0 C := ⟨_, rfl⟩
  rw [← hw4] at HM3 HV4a HSB
  have HYE := Lib.hid hY
  have HW4 := Lib.hid hw4
  have HTC : Hid ((w3.alloc (.cells zr.toArray 89)).there w3.heap.size 0 C.toArray.size) := Lib.hid (by rw [← HYE.out, List.size_toArray]; exact HM3.out.1)
  have HCZ : Hid (C.toArray.size = 39) := Lib.hid (by rw [List.size_toArray, HCL.out])
  have HV4 := HV4a
  have HR4 := Lib.hid HM3.out.2
  clear hb3 hY hw4 HM3 hC hCO hCR HV4a
  cases r1 with
  | false =>
    have HF := Lib.hid (HFA.out (by simp))
    go_wp2_with (first | ((with_reducible refine alloc_is 89 ?_); refine alloc_arr 89 zr.toArray ZR.out ?_) | ((with_reducible refine store_is 89 (.tmp 13) (.tmp 27) ?_); refine store_arr 89 (.tmp 13) (.tmp 27) w3.heap.size 0 C.toArray rfl rfl HTC.out (info_rule HCZ.out) HCO.out ?_; rw [show C.toArray.toList = C from rfl, ← HYE.out, ← HW4.out]) | fail)
    refine wp_region_held_drew (S := fun _ => True) (by kernel_rfl) trivial (fun hHeld => ?_)
    refine wpAnyH_take (i := 0) (oi := { dst := some 29, op := .move (.tmp 12), type := _, pos := _, after := _, guard := none }) (v := .bool false) rfl (by kernel_rfl) (by kernel_rfl) (by kernel_rfl) (fun _ _ _ h => h) (Or.inl ⟨by rfl, fun wh hSw => ?_⟩) hHeld ?_
    · (go_simp)
    try simp only [Act.put, List.setIfInBounds_toArray, List.set_cons_zero, List.set_cons_succ]
    refine wpAnyH_take (i := 1) (oi := { dst := some 30, op := .move (.tmp 29), type := _, pos := _, after := _, guard := none }) (v := .bool false) rfl (by kernel_rfl) (by kernel_rfl) (by kernel_rfl) (fun _ _ _ h => h) (Or.inl ⟨by rfl, fun wh hSw => ?_⟩) hHeld ?_
    · (go_simp)
    try simp only [Act.put, List.setIfInBounds_toArray, List.set_cons_zero, List.set_cons_succ]
    refine wpAnyH_take (i := 2) (oi := { dst := some 31, op := .move (.tmp 14), type := _, pos := _, after := _, guard := some (1, true) }) (v := undef) rfl (by kernel_rfl) (by kernel_rfl) (by kernel_rfl) (fun _ _ _ h => h) (Or.inr ⟨by rfl, rfl⟩) hHeld ?_
    try simp only [Act.put, List.setIfInBounds_toArray, List.set_cons_zero, List.set_cons_succ]
    refine wpAnyH_take (i := 3) (oi := { dst := some 32, op := .pick (.tmp 30) (.tmp 31) (.const (.bool false)), type := _, pos := _, after := _, guard := none }) (v := .bool false) rfl (by kernel_rfl) (by kernel_rfl) (by kernel_rfl) (fun _ _ _ h => h) (Or.inl ⟨by rfl, fun wh hSw => ?_⟩) hHeld ?_
    · (go_simp)
    try simp only [Act.put, List.setIfInBounds_toArray, List.set_cons_zero, List.set_cons_succ]
    refine wpAnyH_take (i := 4) (oi := { dst := some 33, op := .move (.tmp 32), type := _, pos := _, after := _, guard := none }) (v := .bool false) rfl (by kernel_rfl) (by kernel_rfl) (by kernel_rfl) (fun _ _ _ h => h) (Or.inl ⟨by rfl, fun wh hSw => ?_⟩) hHeld ?_
    · (go_simp)
    try simp only [Act.put, List.setIfInBounds_toArray, List.set_cons_zero, List.set_cons_succ]
    refine wpAnyH_take (i := 5) (oi := { dst := some 34, op := .load 89 (.tmp 13), type := _, pos := _, after := _, guard := some (4, true) }) (v := undef) rfl (by kernel_rfl) (by kernel_rfl) (by kernel_rfl) (fun _ _ _ h => h) (Or.inr ⟨by rfl, rfl⟩) hHeld ?_
    try simp only [Act.put, List.setIfInBounds_toArray, List.set_cons_zero, List.set_cons_succ]
    refine wpAnyH_take (i := 6) (oi := { dst := some 35, op := .move (.tmp 2), type := _, pos := _, after := _, guard := some (4, true) }) (v := undef) rfl (by kernel_rfl) (by kernel_rfl) (by kernel_rfl) (fun _ _ _ h => h) (Or.inr ⟨by rfl, rfl⟩) hHeld ?_
    try simp only [Act.put, List.setIfInBounds_toArray, List.set_cons_zero, List.set_cons_succ]
    refine wpAnyH_take (i := 7) (oi := { dst := some 36, op := .fieldAddr 83 (.tmp 11) 0, type := _, pos := _, after := _, guard := some (4, true) }) (v := undef) rfl (by kernel_rfl) (by kernel_rfl) (by kernel_rfl) (fun _ _ _ h => h) (Or.inr ⟨by rfl, rfl⟩) hHeld ?_
    try simp only [Act.put, List.setIfInBounds_toArray, List.set_cons_zero, List.set_cons_succ]
    refine wpAnyH_take (i := 8) (oi := { dst := some 37, op := .indexAddr 79 (.tmp 36) (.tmp 35), type := _, pos := _, after := _, guard := some (4, true) }) (v := undef) rfl (by kernel_rfl) (by kernel_rfl) (by kernel_rfl) (fun _ _ _ h => h) (Or.inr ⟨by rfl, rfl⟩) hHeld ?_
    try simp only [Act.put, List.setIfInBounds_toArray, List.set_cons_zero, List.set_cons_succ]
    refine wpAnyH_take (i := 9) (oi := { dst := some 38, op := .load 77 (.tmp 37), type := _, pos := _, after := _, guard := some (4, true) }) (v := undef) rfl (by kernel_rfl) (by kernel_rfl) (by kernel_rfl) (fun _ _ _ h => h) (Or.inr ⟨by rfl, rfl⟩) hHeld ?_
    try simp only [Act.put, List.setIfInBounds_toArray, List.set_cons_zero, List.set_cons_succ]
    refine wpAnyH_take (i := 10) (oi := { dst := some 39, op := .call { callee := .value (.func 70), args := #[.tmp 34, .tmp 38], argTypes := #[89, 77] }, type := _, pos := _, after := _, guard := some (4, true) }) (v := undef) rfl (by kernel_rfl) (by kernel_rfl) (by kernel_rfl) (fun _ _ _ h => h) (Or.inr ⟨by rfl, rfl⟩) hHeld ?_
    try simp only [Act.put, List.setIfInBounds_toArray, List.set_cons_zero, List.set_cons_succ]
    refine wpAnyH_take (i := 11) (oi := { dst := some 40, op := .pick (.tmp 33) (.tmp 39) (.const (.bool false)), type := _, pos := _, after := _, guard := none }) (v := .bool false) rfl (by kernel_rfl) (by kernel_rfl) (by kernel_rfl) (fun _ _ _ h => h) (Or.inl ⟨by rfl, fun wh hSw => ?_⟩) hHeld ?_
    · (go_simp)
    try simp only [Act.put, List.setIfInBounds_toArray, List.set_cons_zero, List.set_cons_succ]
    refine wpAnyH_take (i := 12) (oi := { dst := some 10, op := .assign (.tmp 40), type := _, pos := _, after := _, guard := none }) (v := .bool false) rfl (by kernel_rfl) (by kernel_rfl) (by kernel_rfl) (fun _ _ _ h => h) (Or.inl ⟨by rfl, fun wh hSw => ?_⟩) hHeld ?_
    · (go_simp)
    try simp only [Act.put, List.setIfInBounds_toArray, List.set_cons_zero, List.set_cons_succ]
    refine wpAnyH_done (by kernel_rfl) ?_ _
    go_wp2_with fail
    go_ret
    exact ⟨by rw [HF.out]; rfl, HV4.out.bel.drew⟩
  | true =>
    cases r2 with
    | false =>
      have HF := Lib.hid (HFA.out (by simp))
      go_wp2_with (first | ((with_reducible refine alloc_is 89 ?_); refine alloc_arr 89 zr.toArray ZR.out ?_) | ((with_reducible refine store_is 89 (.tmp 13) (.tmp 27) ?_); refine store_arr 89 (.tmp 13) (.tmp 27) w3.heap.size 0 C.toArray rfl rfl HTC.out (info_rule HCZ.out) HCO.out ?_; rw [show C.toArray.toList = C from rfl, ← HYE.out, ← HW4.out]) | fail)
      refine wp_region_held_drew (S := fun _ => True) (by kernel_rfl) trivial (fun hHeld => ?_)
      refine wpAnyH_take (i := 0) (oi := { dst := some 29, op := .move (.tmp 12), type := _, pos := _, after := _, guard := none }) (v := .bool true) rfl (by kernel_rfl) (by kernel_rfl) (by kernel_rfl) (fun _ _ _ h => h) (Or.inl ⟨by rfl, fun wh hSw => ?_⟩) hHeld ?_
      · (go_simp)
      try simp only [Act.put, List.setIfInBounds_toArray, List.set_cons_zero, List.set_cons_succ]
      refine wpAnyH_take (i := 1) (oi := { dst := some 30, op := .move (.tmp 29), type := _, pos := _, after := _, guard := none }) (v := .bool true) rfl (by kernel_rfl) (by kernel_rfl) (by kernel_rfl) (fun _ _ _ h => h) (Or.inl ⟨by rfl, fun wh hSw => ?_⟩) hHeld ?_
      · (go_simp)
      try simp only [Act.put, List.setIfInBounds_toArray, List.set_cons_zero, List.set_cons_succ]
      refine wpAnyH_take (i := 2) (oi := { dst := some 31, op := .move (.tmp 14), type := _, pos := _, after := _, guard := some (1, true) }) (v := .bool false) rfl (by kernel_rfl) (by kernel_rfl) (by kernel_rfl) (fun _ _ _ h => h) (Or.inl ⟨by rfl, fun wh hSw => ?_⟩) hHeld ?_
      · (go_simp)
      try simp only [Act.put, List.setIfInBounds_toArray, List.set_cons_zero, List.set_cons_succ]
      refine wpAnyH_take (i := 3) (oi := { dst := some 32, op := .pick (.tmp 30) (.tmp 31) (.const (.bool false)), type := _, pos := _, after := _, guard := none }) (v := .bool false) rfl (by kernel_rfl) (by kernel_rfl) (by kernel_rfl) (fun _ _ _ h => h) (Or.inl ⟨by rfl, fun wh hSw => ?_⟩) hHeld ?_
      · (go_simp)
      try simp only [Act.put, List.setIfInBounds_toArray, List.set_cons_zero, List.set_cons_succ]
      refine wpAnyH_take (i := 4) (oi := { dst := some 33, op := .move (.tmp 32), type := _, pos := _, after := _, guard := none }) (v := .bool false) rfl (by kernel_rfl) (by kernel_rfl) (by kernel_rfl) (fun _ _ _ h => h) (Or.inl ⟨by rfl, fun wh hSw => ?_⟩) hHeld ?_
      · (go_simp)
      try simp only [Act.put, List.setIfInBounds_toArray, List.set_cons_zero, List.set_cons_succ]
      refine wpAnyH_take (i := 5) (oi := { dst := some 34, op := .load 89 (.tmp 13), type := _, pos := _, after := _, guard := some (4, true) }) (v := undef) rfl (by kernel_rfl) (by kernel_rfl) (by kernel_rfl) (fun _ _ _ h => h) (Or.inr ⟨by rfl, rfl⟩) hHeld ?_
      try simp only [Act.put, List.setIfInBounds_toArray, List.set_cons_zero, List.set_cons_succ]
      refine wpAnyH_take (i := 6) (oi := { dst := some 35, op := .move (.tmp 2), type := _, pos := _, after := _, guard := some (4, true) }) (v := undef) rfl (by kernel_rfl) (by kernel_rfl) (by kernel_rfl) (fun _ _ _ h => h) (Or.inr ⟨by rfl, rfl⟩) hHeld ?_
      try simp only [Act.put, List.setIfInBounds_toArray, List.set_cons_zero, List.set_cons_succ]
      refine wpAnyH_take (i := 7) (oi := { dst := some 36, op := .fieldAddr 83 (.tmp 11) 0, type := _, pos := _, after := _, guard := some (4, true) }) (v := undef) rfl (by kernel_rfl) (by kernel_rfl) (by kernel_rfl) (fun _ _ _ h => h) (Or.inr ⟨by rfl, rfl⟩) hHeld ?_
      try simp only [Act.put, List.setIfInBounds_toArray, List.set_cons_zero, List.set_cons_succ]
      refine wpAnyH_take (i := 8) (oi := { dst := some 37, op := .indexAddr 79 (.tmp 36) (.tmp 35), type := _, pos := _, after := _, guard := some (4, true) }) (v := undef) rfl (by kernel_rfl) (by kernel_rfl) (by kernel_rfl) (fun _ _ _ h => h) (Or.inr ⟨by rfl, rfl⟩) hHeld ?_
      try simp only [Act.put, List.setIfInBounds_toArray, List.set_cons_zero, List.set_cons_succ]
      refine wpAnyH_take (i := 9) (oi := { dst := some 38, op := .load 77 (.tmp 37), type := _, pos := _, after := _, guard := some (4, true) }) (v := undef) rfl (by kernel_rfl) (by kernel_rfl) (by kernel_rfl) (fun _ _ _ h => h) (Or.inr ⟨by rfl, rfl⟩) hHeld ?_
      try simp only [Act.put, List.setIfInBounds_toArray, List.set_cons_zero, List.set_cons_succ]
      refine wpAnyH_take (i := 10) (oi := { dst := some 39, op := .call { callee := .value (.func 70), args := #[.tmp 34, .tmp 38], argTypes := #[89, 77] }, type := _, pos := _, after := _, guard := some (4, true) }) (v := undef) rfl (by kernel_rfl) (by kernel_rfl) (by kernel_rfl) (fun _ _ _ h => h) (Or.inr ⟨by rfl, rfl⟩) hHeld ?_
      try simp only [Act.put, List.setIfInBounds_toArray, List.set_cons_zero, List.set_cons_succ]
      refine wpAnyH_take (i := 11) (oi := { dst := some 40, op := .pick (.tmp 33) (.tmp 39) (.const (.bool false)), type := _, pos := _, after := _, guard := none }) (v := .bool false) rfl (by kernel_rfl) (by kernel_rfl) (by kernel_rfl) (fun _ _ _ h => h) (Or.inl ⟨by rfl, fun wh hSw => ?_⟩) hHeld ?_
      · (go_simp)
      try simp only [Act.put, List.setIfInBounds_toArray, List.set_cons_zero, List.set_cons_succ]
      refine wpAnyH_take (i := 12) (oi := { dst := some 10, op := .assign (.tmp 40), type := _, pos := _, after := _, guard := none }) (v := .bool false) rfl (by kernel_rfl) (by kernel_rfl) (by kernel_rfl) (fun _ _ _ h => h) (Or.inl ⟨by rfl, fun wh hSw => ?_⟩) hHeld ?_
      · (go_simp)
      try simp only [Act.put, List.setIfInBounds_toArray, List.set_cons_zero, List.set_cons_succ]
      refine wpAnyH_done (by kernel_rfl) ?_ _
      go_wp2_with fail
      go_ret
      exact ⟨by rw [HF.out]; rfl, HV4.out.bel.drew⟩
    | true =>
      have hbo := both_iff.1 HR1.out.symm
      obtain ⟨n, rfl, hn, hq⟩ := HTQ.out rfl rfl
      obtain ⟨b, hCE, hset⟩ := HCR.out rfl
      have hzy := HAY.out hbo.2
      rw [hzy] at hCE
      subst hCE
      have HST := Lib.hid (HSB.out b hset)
      have HA := Lib.hid (HAA.out hbo.1 hbo.2 n hn w4.drew b (HST.out.below ((Below.refl _ _).drew)))
      have HRM := Lib.hid (HTR.out hbo.1 w4 X n hn HV4.out.at0)
      have HLM' := Lib.hid (HLM.out hbo.1 n hn)
      have HQ := Lib.hid hq
      have HXM := run_indexAt_arr (P := Try.prog) 79 12 77 4 Try.underlying79 size_words (by omega) X n hn
      have hn0 : (0 : Int) ≤ (n : Int) := by omega
      have hn1 : (n : Int) < 12 := by omega
      obtain ⟨M, hM⟩ : ∃ M, M = (xss.getD n []).map (Value.int .i64) := ⟨_, rfl⟩
      obtain ⟨C, hC⟩ : ∃ C, C = rcC ys (n : Int) (tneeds k) (some b) := ⟨_, rfl⟩
      rw [← hM] at HA HRM HLM'
      rw [← hC] at HA HCL HCO HR4 HTC HCZ HW4
      have HIW : Hid ((Try.prog.info? 77).map (·.size) = some M.length) := Lib.hid (by rw [HLM'.out]; exact info_words)
      obtain ⟨q, hq2⟩ : ∃ q, q = rall ys (n : Int) (tneeds k) (xss.getD n []) rs := ⟨_, rfl⟩
      rw [← hq2] at HA HQ
      rw [← hC]
      clear hM hC hq hq2 hset hbo hzy
      go_wp2_with (first | ((with_reducible refine alloc_is 89 ?_); refine alloc_arr 89 zr.toArray ZR.out ?_) | ((with_reducible refine store_is 89 (.tmp 13) (.tmp 27) ?_); refine store_arr 89 (.tmp 13) (.tmp 27) w3.heap.size 0 C.toArray rfl rfl HTC.out (info_rule HCZ.out) HCO.out ?_; rw [show C.toArray.toList = C from rfl, ← HYE.out, ← HW4.out]) | fail)
      refine wp_region_held_drew (S := fun w' => w'.rangeAt Y 0 C ∧ w'.rangeAt X (n * 4) M) (by kernel_rfl) ⟨HR4.out.at0, HRM.out⟩ (fun hHeld => ?_)
      refine wpAnyH_take (i := 0) (oi := { dst := some 29, op := .move (.tmp 12), type := _, pos := _, after := _, guard := none }) (v := .bool true) rfl (by kernel_rfl) (by kernel_rfl) (by kernel_rfl) (fun _ _ _ h => h) (Or.inl ⟨by rfl, fun wh hSw => ?_⟩) hHeld ?_
      · (go_simp)
      try simp only [Act.put, List.setIfInBounds_toArray, List.set_cons_zero, List.set_cons_succ]
      refine wpAnyH_take (i := 1) (oi := { dst := some 30, op := .move (.tmp 29), type := _, pos := _, after := _, guard := none }) (v := .bool true) rfl (by kernel_rfl) (by kernel_rfl) (by kernel_rfl) (fun _ _ _ h => h) (Or.inl ⟨by rfl, fun wh hSw => ?_⟩) hHeld ?_
      · (go_simp)
      try simp only [Act.put, List.setIfInBounds_toArray, List.set_cons_zero, List.set_cons_succ]
      refine wpAnyH_take (i := 2) (oi := { dst := some 31, op := .move (.tmp 14), type := _, pos := _, after := _, guard := some (1, true) }) (v := .bool true) rfl (by kernel_rfl) (by kernel_rfl) (by kernel_rfl) (fun _ _ _ h => h) (Or.inl ⟨by rfl, fun wh hSw => ?_⟩) hHeld ?_
      · (go_simp)
      try simp only [Act.put, List.setIfInBounds_toArray, List.set_cons_zero, List.set_cons_succ]
      refine wpAnyH_take (i := 3) (oi := { dst := some 32, op := .pick (.tmp 30) (.tmp 31) (.const (.bool false)), type := _, pos := _, after := _, guard := none }) (v := .bool true) rfl (by kernel_rfl) (by kernel_rfl) (by kernel_rfl) (fun _ _ _ h => h) (Or.inl ⟨by rfl, fun wh hSw => ?_⟩) hHeld ?_
      · (go_simp)
      try simp only [Act.put, List.setIfInBounds_toArray, List.set_cons_zero, List.set_cons_succ]
      refine wpAnyH_take (i := 4) (oi := { dst := some 33, op := .move (.tmp 32), type := _, pos := _, after := _, guard := none }) (v := .bool true) rfl (by kernel_rfl) (by kernel_rfl) (by kernel_rfl) (fun _ _ _ h => h) (Or.inl ⟨by rfl, fun wh hSw => ?_⟩) hHeld ?_
      · (go_simp)
      try simp only [Act.put, List.setIfInBounds_toArray, List.set_cons_zero, List.set_cons_succ]
      refine wpAnyH_take (i := 5) (oi := { dst := some 34, op := .load 89 (.tmp 13), type := _, pos := _, after := _, guard := some (4, true) }) (v := .agg C.toArray) rfl (by kernel_rfl) (by kernel_rfl) (by kernel_rfl) (fun _ _ _ h => h) (Or.inl ⟨by rfl, fun wh hSw => ?_⟩) hHeld ?_
      · (simp only [execOp]; exact load_run 89 Y 0 C _ hSw.1 Try.underlying89 rfl (info_rule HCL.out))
      try simp only [Act.put, List.setIfInBounds_toArray, List.set_cons_zero, List.set_cons_succ]
      refine wpAnyH_take (i := 6) (oi := { dst := some 35, op := .move (.tmp 2), type := _, pos := _, after := _, guard := some (4, true) }) (v := .int .i64 (n : Int)) rfl (by kernel_rfl) (by kernel_rfl) (by kernel_rfl) (fun _ _ _ h => h) (Or.inl ⟨by rfl, fun wh hSw => ?_⟩) hHeld ?_
      · (go_simp)
      try simp only [Act.put, List.setIfInBounds_toArray, List.set_cons_zero, List.set_cons_succ]
      refine wpAnyH_take (i := 7) (oi := { dst := some 36, op := .fieldAddr 83 (.tmp 11) 0, type := _, pos := _, after := _, guard := some (4, true) }) (v := .pointer (some ⟨X, 0, none⟩)) rfl (by kernel_rfl) (by kernel_rfl) (by kernel_rfl) (fun _ _ _ h => h) (Or.inl ⟨by rfl, fun wh hSw => ?_⟩) hHeld ?_
      · (go_simp)
      try simp only [Act.put, List.setIfInBounds_toArray, List.set_cons_zero, List.set_cons_succ]
      refine wpAnyH_take (i := 8) (oi := { dst := some 37, op := .indexAddr 79 (.tmp 36) (.tmp 35), type := _, pos := _, after := _, guard := some (4, true) }) (v := .pointer (some ⟨X, n * 4, none⟩)) rfl (by kernel_rfl) (by kernel_rfl) (by kernel_rfl) (fun _ _ _ h => h) (Or.inl ⟨by rfl, fun wh hSw => ?_⟩) hHeld ?_
      · (go_simp)
      try simp only [Act.put, List.setIfInBounds_toArray, List.set_cons_zero, List.set_cons_succ]
      refine wpAnyH_take (i := 9) (oi := { dst := some 38, op := .load 77 (.tmp 37), type := _, pos := _, after := _, guard := some (4, true) }) (v := .agg M.toArray) rfl (by kernel_rfl) (by kernel_rfl) (by kernel_rfl) (fun _ _ _ h => h) (Or.inl ⟨by rfl, fun wh hSw => ?_⟩) hHeld ?_
      · (simp only [execOp]; exact load_run 77 X (n * 4) M _ hSw.2 Try.underlying77 rfl HIW.out)
      try simp only [Act.put, List.setIfInBounds_toArray, List.set_cons_zero, List.set_cons_succ]
      refine wpAnyH_ready (rs := [10]) (by kernel_rfl) (by simp) ?_
      refine AllReadyH.cons (o := { dst := some 39, op := .call { callee := .value (.func 70), args := #[.tmp 34, .tmp 38], argTypes := #[89, 77] }, type := _, pos := _, after := _, guard := some (4, true) }) rfl (fun K hK => ?_) AllReadyH.nil
      go_simp
      refine HA.out.mono ?_
      rintro e w5 ⟨rfl, hb5⟩
      have HB5 := Lib.hid hb5
      clear hb5
      try go_simp
      refine hK.out _ _ ?_ (fun hHeld => ?_)
      · exact ⟨range_blocks hHeld.1 (HB5.out.block Y HR4.out.hi), range_blocks hHeld.2 (HB5.out.block X HV4.out.hi)⟩
      clear hK K
      try simp only [Act.put, List.setIfInBounds_toArray, List.set_cons_zero, List.set_cons_succ]
      refine wpAnyH_take (i := 11) (oi := { dst := some 40, op := .pick (.tmp 33) (.tmp 39) (.const (.bool false)), type := _, pos := _, after := _, guard := none }) (v := .bool q) rfl (by kernel_rfl) (by kernel_rfl) (by kernel_rfl) (fun _ _ _ h => h) (Or.inl ⟨by rfl, fun wh hSw => ?_⟩) hHeld ?_
      · (go_simp)
      try simp only [Act.put, List.setIfInBounds_toArray, List.set_cons_zero, List.set_cons_succ]
      refine wpAnyH_take (i := 12) (oi := { dst := some 10, op := .assign (.tmp 40), type := _, pos := _, after := _, guard := none }) (v := .bool q) rfl (by kernel_rfl) (by kernel_rfl) (by kernel_rfl) (fun _ _ _ h => h) (Or.inl ⟨by rfl, fun wh hSw => ?_⟩) hHeld ?_
      · (go_simp)
      try simp only [Act.put, List.setIfInBounds_toArray, List.set_cons_zero, List.set_cons_succ]
      refine wpAnyH_done (by kernel_rfl) ?_ _
      go_wp2_with fail
      go_ret
      exact ⟨by rw [HQ.out]; rfl, HV4.out.bel.drew.trans (HB5.out.mono HV4.out.bel.size)⟩
end Go.Proofs.Yticnfekjbknomaa
