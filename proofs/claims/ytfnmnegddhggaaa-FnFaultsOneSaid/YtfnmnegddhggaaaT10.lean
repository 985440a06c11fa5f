/- What the proofs stand on, part 10. -/
import Derived.Test.YtfnmnegddhggaaaRows
import Derived.Test.YtfnmnegddhggaaaT1
import Derived.Test.YtfnmnegddhggaaaT2
import Derived.Test.YtfnmnegddhggaaaT4
import Derived.Test.YtfnmnegddhggaaaT6
set_option linter.unusedSimpArgs false
set_option linter.unusedVariables false
namespace Go.Proofs.Ytfnmnegddhggaaa
open Go.ChangeShapes Go.WideShapes Go.ChangeAt Go.RowKit
set_option linter.unusedVariables false
def fltN (xs : List Int) (f : Int) : Nat → Nat
  | 0 => 0
  | m + 1 => fltN xs f m + if spn xs m < 0 ∨ f ≤ spn xs m then 1 else 0
def flast (xs : List Int) (f : Int) : Int := if ftOk xs f = true then (fltN xs f xs.length : Nat) else -1
end Go.Proofs.Ytfnmnegddhggaaa
namespace Go.Proofs.Ytfnmnegddhggaaa
set_option linter.unusedVariables false
set_option linter.unusedSimpArgs false
def costL (f : Nat) : List Int → List Int → Nat
  | _, [] => 0
  | p, x :: r => costL f (x :: p) r + fMiss x ((rcp p).take f)
theorem fInTake {x : Int} {p : List Int} {f : Nat} : x ∈ (rcp p).take f ↔ x ∈ p ∧ (rcp (p.takeWhile (fun y => decide (y ≠ x)))).length < f := by
  constructor
  · intro h
    have hx := rcp_mem.1 (List.mem_of_mem_take h)
    obtain ⟨s, hs⟩ := rcp_split hx
    refine ⟨hx, ?_⟩
    refine Nat.lt_of_not_le fun hc => ?_
    rw [hs, List.take_append_of_le_length hc] at h
    have h2 := rcp_mem.1 (List.mem_of_mem_take h)
    have := List.all_takeWhile (p := fun y => decide (y ≠ x)) (l := p)
    rw [List.all_eq_true] at this
    have := this x h2
    simp at this
  · rintro ⟨hx, hl⟩
    obtain ⟨s, hs⟩ := rcp_split hx
    rw [hs]
    obtain ⟨d, hd⟩ : ∃ d, f = (rcp (p.takeWhile (fun y => decide (y ≠ x)))).length + (d + 1) := ⟨f - (rcp (p.takeWhile (fun y => decide (y ≠ x)))).length - 1, by omega⟩
    rw [hd, List.take_length_add_append, List.take_succ_cons]
    simp
theorem spn_miss {xs : List Int} {k f : Nat} (hk : k < xs.length) : fMiss (xs.getD k 0) ((rcp (xs.take k).reverse).take f) = if spn xs k < 0 ∨ (f : Int) ≤ spn xs k then 1 else 0 := by
  have hb := bfi_past (Nat.le_of_lt hk)
  have hin : xs.getD k 0 ∈ (xs.take k).reverse ↔ bfi xs k < k := by
    rw [hb]
    have hl : (xs.take k).reverse.length = k := by simp; omega
    conv => rhs; rhs; rw [← hl]
    rw [List.findIdx_lt_length]
    constructor
    · intro h; exact ⟨_, h, by simp⟩
    · rintro ⟨y, hy, e⟩; rw [← of_decide_eq_true e]; exact hy
  have hit := fInTake (x := xs.getD k 0) (p := (xs.take k).reverse) (f := f)
  rw [fTw, ← hb] at hit
  by_cases h1 : bfi xs k < k
  · have hs : spn xs k = ((seen xs k (bfi xs k)).length : Nat) := if_pos h1
    rw [seen_rec (Nat.le_of_lt hk) (Nat.le_of_lt h1)] at hs
    by_cases h2 : (rcp ((xs.take k).reverse.take (bfi xs k))).length < f
    · rw [fMiss_in (hit.2 ⟨hin.2 h1, h2⟩), if_neg (by omega)]
    · rw [fMiss_out (fun h => h2 (hit.1 h).2), if_pos (by omega)]
  · have hs : spn xs k = -1 := if_neg h1
    rw [fMiss_out (fun h => h1 (hin.1 (hit.1 h).1)), if_pos (by omega)]
theorem fltN_cost {xs : List Int} {f : Nat} : ∀ {k : Nat}, k ≤ xs.length → costL f (xs.take k).reverse (xs.drop k) + fltN xs f k = costL f [] xs
  | 0, _ => by simp [fltN]
  | k + 1, hk => by
    have hk' : k < xs.length := by omega
    have ih := fltN_cost (xs := xs) (f := f) (k := k) (by omega)
    have e : xs.drop k = xs.getD k 0 :: xs.drop (k + 1) := by
      rw [List.drop_eq_getElem_cons hk', List.getD_eq_getElem?_getD, List.getElem?_eq_getElem hk']; rfl
    rw [e, costL, spn_miss hk'] at ih
    rw [fPast_cons hk', fltN]
    omega
theorem fltN_all (xs : List Int) (f : Nat) : fltN xs f xs.length = costL f [] xs := by
  have h := fltN_cost (xs := xs) (f := f) (Nat.le_refl _)
  rw [List.drop_length] at h
  simpa [costL] using h
end Go.Proofs.Ytfnmnegddhggaaa
namespace Go.Proofs.Ytfnmnegddhggaaa
set_option linter.unusedVariables false
set_option linter.unusedSimpArgs false
theorem xLast {L : List Int} (h : L ≠ []) : L.getLast? = some (L.getLast h) := by
  cases L with
  | nil => exact absurd rfl h
  | cons a l => rfl
def ruleL (L : List Int) (_ : Int → Int) (_ : List Int) : Int := L.getLast?.getD 0
theorem ruleL_in : XIn ruleL := fun L c r h => by
  unfold ruleL
  rw [xLast h]
  exact List.getLast_mem h
theorem xTake_out {x : Int} : ∀ {M : List Int} {g : Nat}, x ∉ M.take g → (M.filter (fun y => decide (y ≠ x))).take g = M.take g
  | _, 0, _ => by simp
  | [], _ + 1, _ => by simp
  | z :: M, g + 1, h => by
    rw [List.take_succ_cons, List.mem_cons, not_or] at h
    rw [List.filter_cons_of_pos (by simpa using fun e => h.1 e.symm), List.take_succ_cons, List.take_succ_cons, xTake_out h.2]
theorem xTake_in {x : Int} : ∀ {M : List Int} {g : Nat}, M.Nodup → x ∈ M.take (g + 1) → (M.filter (fun y => decide (y ≠ x))).take g = (M.take (g + 1)).filter (fun y => decide (y ≠ x))
  | [], _, _, h => by simp at h
  | z :: M, g, hn, h => by
    have hn' := List.nodup_cons.1 hn
    rw [List.take_succ_cons] at h ⊢
    by_cases hz : z = x
    · subst hz
      have e : ∀ A : List Int, z ∉ A → A.filter (fun y => decide (y ≠ z)) = A := fun A hA => List.filter_eq_self.2 (fun a ha => by
        rw [decide_eq_true_eq]; intro e; exact hA (e ▸ ha))
      rw [List.filter_cons_of_neg (by simp), List.filter_cons_of_neg (by simp), e M hn'.1, e _ (fun hh => hn'.1 (List.mem_of_mem_take hh))]
    · have h2 := (List.mem_cons.1 h).resolve_left (fun e => hz e.symm)
      rw [List.filter_cons_of_pos (by simpa using hz), List.filter_cons_of_pos (by simpa using hz)]
      cases g with
      | zero => simp at h2
      | succ g => rw [List.take_succ_cons, xTake_in hn'.2 h2]
theorem xEraseLast {L : List Int} (h : L.Nodup) (hne : L ≠ []) : L.erase (L.getLast?.getD 0) = L.dropLast := by
  have e := List.dropLast_concat_getLast hne
  rw [xLast hne]
  show L.erase (L.getLast hne) = L.dropLast
  have hn : L.getLast hne ∉ L.dropLast := by
    intro hm
    rw [← e, List.nodup_append] at h
    exact h.2.2 _ hm _ (List.mem_singleton.2 rfl) rfl
  conv => lhs; lhs; rw [← e]
  rw [List.erase_append_right _ hn]
  simp
theorem xNextL {f : Nat} (hf : 0 < f) (p : List Int) (c : Int → Int) (x : Int) (r : List Int) : xNext ruleL f ((rcp p).take f) c x r = (rcp (x :: p)).take f := by
  obtain ⟨g, rfl⟩ : ∃ g, f = g + 1 := ⟨f - 1, by omega⟩
  have hn := rcp_nodup p
  have hnt : ((rcp p).take (g + 1)).Nodup := (List.take_sublist _ _).nodup hn
  unfold xNext xMid
  rw [rcp, List.take_succ_cons]
  congr 1
  by_cases hx : x ∈ (rcp p).take (g + 1)
  · rw [if_pos hx, ← xFilterErase hnt, xTake_in hn hx]
  · have hxg : x ∉ (rcp p).take g := fun h => hx ((List.take_subset_take_left (rcp p) (Nat.le_succ g)) h)
    rw [if_neg hx, xTake_out hxg]
    by_cases hl : ((rcp p).take (g + 1)).length < g + 1
    · rw [if_pos hl, List.erase_of_not_mem hx]
      rw [List.length_take] at hl
      rw [List.take_of_length_le (by omega), List.take_of_length_le (by omega)]
    · have hne : (rcp p).take (g + 1) ≠ [] := by intro e; rw [e] at hl; simp at hl
      rw [if_neg hl]
      unfold ruleL
      rw [xEraseLast hnt hne, List.erase_of_not_mem (fun h => hx (List.dropLast_subset _ h)), List.dropLast_eq_take, List.take_take]
      congr 1
      rw [List.length_take] at hl ⊢; omega
theorem xRunL {f : Nat} (hf : 0 < f) : ∀ (r p : List Int) (c : Int → Int) (n : Nat), xRun ruleL f ((rcp p).take f) c n r = n + costL f p r
  | [], _, _, _ => rfl
  | x :: r, p, c, n => by
    rw [xRun, xNextL hf, xRunL hf r (x :: p), costL]
    omega
theorem x_last {xs : List Int} {f : Nat} {c : Int → Int} (hk : ftOk xs (f : Int) = true) (hf : 0 < f) : flast xs (f : Int) = (xRun ruleL f [] c 0 xs : Nat) := by
  have h := xRunL hf xs [] c 0
  simp only [rcp, List.take_nil] at h
  rw [flast, if_pos hk, fltN_all, h, Nat.zero_add]
end Go.Proofs.Ytfnmnegddhggaaa
namespace Go.Proofs.Ytfnmnegddhggaaa
open Go.ChangeShapes Go.WideShapes Go.ChangeAt Go.RowKit
set_option linter.unusedVariables false
set_option linter.unusedSimpArgs false
def CFL : Prop := ∀ w v xs f, Ints w v xs → Calls Try.prog 25 #[v, .int .i64 f] w (IRes (flast xs f) w)
end Go.Proofs.Ytfnmnegddhggaaa
namespace Go.Proofs.Ytfnmnegddhggaaa
open Go.ChangeShapes Go.WideShapes Go.ChangeAt Go.RowKit
set_option linter.unusedVariables false
set_option linter.unusedSimpArgs false
set_option maxRecDepth 100000 in
set_option maxHeartbeats 1000000 in
theorem iusedFirst_any : RuleC 48 ruleL := by
  intro w0 kb L r fr n c w h hne _
  obtain ⟨ns, p, v, hk, hp, hl, hn, hkb, hlo, hi⟩ := h.pg
  have hc0 := hk.c0
  obtain ⟨R, hR⟩ : ∃ R, R = ruleL L c r := ⟨_, rfl⟩
  rw [← hR]
  have HR : Hid (R = (pgs ns).getLast?.getD 0) := Lib.hid (by rw [hR, hl]; rfl)
  have HN := Lib.hid hn
  have HP := Lib.hid hp
  have HNE : Hid (ns ≠ []) := Lib.hid (fun e => hne (by rw [← hl, e]; rfl))
  clear h hk hp hl hn hkb hlo hi hR hne
  go_enter Try.func48, Try.ntmps48
  go_wp2
  go_loopw [3] (fun f wr => ∃ (pre us : List (Nat × Int)) (m : Nat × Int) (q : Option Addr), f = .pointer q ∧ Hid (ns = pre ++ m :: us) ∧ Hid (Pg w (m :: us) q) ∧ Hid (R = (pgs (m :: us)).getLast?.getD 0) ∧ wr = w) (fun f _ => mP (blk ns) f)
  case atStart =>
    obtain ⟨m, us, e⟩ := List.exists_cons_of_ne_nil HNE.out
    exact ⟨[], us, m, p, rfl, Lib.hid e, Lib.hid (by rw [← e]; exact HP.out), Lib.hid (by rw [← e]; exact HR.out), rfl⟩
  case round =>
    obtain ⟨pre, us, m, q, rfl, HE, HPG, HRR, rfl⟩ := hrel
    obtain ⟨rfl, hx0, -, q2, hx1, hx2⟩ := HPG.out
    have HX := Lib.hid hx2
    have HM1 := Lib.hid (mP_eq HPG.out HE.out HN.out)
    cases us with
    | nil =>
      obtain rfl : q2 = none := hx2
      have HF : Hid (R = m.2) := Lib.hid HRR.out
      go_wp2_with fail
      go_ret
      exact ⟨by rw [HF.out]; rfl, Below.refl _ _⟩
    | cons m2 us =>
      have HE2 : Hid (ns = (pre ++ [m]) ++ m2 :: us) := Lib.hid (by rw [HE.out]; simp)
      have HM2 := Lib.hid (mP_eq HX.out HE2.out HN.out)
      have HRR2 : Hid (R = (pgs (m2 :: us)).getLast?.getD 0) := Lib.hid (by rw [HRR.out]; simp [pgs, List.getLast?_cons_cons])
      obtain ⟨rfl, -⟩ := hx2
      go_wp2_with fail
      go_roundw
      case rel => exact ⟨pre ++ [m], us, m2, _, rfl, HE2, HX, HRR2, trivial⟩
      case measure =>
        show mP (blk ns) (.pointer (some ⟨m2.1, 0, none⟩)) < mP (blk ns) (.pointer (some ⟨m.1, 0, none⟩))
        rw [HM1.out, HM2.out]; simp
end Go.Proofs.Ytfnmnegddhggaaa
namespace Go.Proofs.Ytfnmnegddhggaaa
open Go.ChangeShapes Go.WideShapes Go.ChangeAt Go.RowKit
set_option linter.unusedVariables false
set_option linter.unusedSimpArgs false
set_option maxRecDepth 100000 in
set_option maxHeartbeats 1000000 in
theorem icl : CFL := by
  intro w v xs f h
  have HKO := Lib.hid (ikeeperOf_any w v xs f h)
  clear h
  have hmf : ∀ (fn : Fn) (first cap : Array Value) (w : World), (Instr.makeFunc fn first cap).run Try.prog w = .ok (.func fn first cap) w := fun _ _ _ _ => rfl
  by_cases hk : ftOk xs f = true
  · simp only [hk, if_true] at HKO
    obtain ⟨F, rfl, h1, h2⟩ := ftOk_f hk
    have HOK := Lib.hid hk
    have HFB := Lib.hid (fun w1 (h : KSt w w.heap.size [] xs (F : Int) 0 (fun _ => 0) w1) => ifaultsBy_any 48 ruleL iusedFirst_any ruleL_in (fun _ _ => by rfl) w w.heap.size F [] xs 0 (fun _ => 0) w1 (by simpa using h) ⟨h1, h2⟩ ⟨Nat.zero_le _, fun y hy => by simp at hy, (trOk_iff.1 (ftOk_tr hk)).1, by have := (trOk_iff.1 (ftOk_tr hk)).2; omega⟩)
    obtain ⟨R, hR⟩ : ∃ R, R = flast xs (F : Int) := ⟨_, rfl⟩
    rw [← hR]
    have HR : Hid (R = (xRun ruleL F [] (fun _ => 0) 0 xs : Nat)) := Lib.hid (by rw [hR]; exact x_last hk (by omega))
    clear hk hR
    go_enter Try.func25, Try.ntmps25
    go_wp2_with fail
    refine HKO.out.mono ?_
    rintro e w1 ⟨rfl, hst⟩
    have HST := Lib.hid hst
    clear hst
    go_wp2_with fail
    refine (HFB.out w1 HST.out).mono ?_
    rintro e w2 ⟨rfl, hb⟩
    have HB := Lib.hid hb
    clear hb
    go_wp2_with fail
    go_ret
    exact ⟨by rw [HR.out]; rfl, HB.out⟩
  · have hr : flast xs f = -1 := if_neg hk
    simp only [hk] at HKO
    rw [hr]
    clear hk hr
    go_enter Try.func25, Try.ntmps25
    go_wp2_with fail
    refine HKO.out.mono ?_
    rintro e w1 ⟨rfl, rfl⟩
    go_wp2_with fail
    go_ret
    exact ⟨rfl, Below.refl _ _⟩
end Go.Proofs.Ytfnmnegddhggaaa
