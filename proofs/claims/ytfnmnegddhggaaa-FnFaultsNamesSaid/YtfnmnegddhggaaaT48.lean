/- What the proofs stand on, part 48. -/
import Derived.Test.YtfnmnegddhggaaaRows
import Derived.Test.YtfnmnegddhggaaaT1
import Derived.Test.YtfnmnegddhggaaaT2
import Derived.Test.YtfnmnegddhggaaaT3
import Derived.Test.YtfnmnegddhggaaaT4
import Derived.Test.YtfnmnegddhggaaaT5
import Derived.Test.YtfnmnegddhggaaaT6
import Derived.Test.YtfnmnegddhggaaaT7
import Derived.Test.YtfnmnegddhggaaaT8
import Derived.Test.YtfnmnegddhggaaaT9
import Derived.Test.YtfnmnegddhggaaaT10
import Derived.Test.YtfnmnegddhggaaaT11
import Derived.Test.YtfnmnegddhggaaaT12
import Derived.Test.YtfnmnegddhggaaaT13
import Derived.Test.YtfnmnegddhggaaaT14
import Derived.Test.YtfnmnegddhggaaaT15
import Derived.Test.YtfnmnegddhggaaaT16
import Derived.Test.YtfnmnegddhggaaaT17
import Derived.Test.YtfnmnegddhggaaaT18
import Derived.Test.YtfnmnegddhggaaaT21
import Derived.Test.YtfnmnegddhggaaaT23
import Derived.Test.YtfnmnegddhggaaaT29
set_option linter.unusedSimpArgs false
set_option linter.unusedVariables false
namespace Go.Proofs.Ytfnmnegddhggaaa
set_option linter.unusedVariables false
set_option linter.unusedSimpArgs false
theorem fMemName {g : Int → Int} (hg : ∀ x, g (g x) = x) {x : Int} {K : List Int} : g x ∈ K.map g ↔ x ∈ K := by
  rw [List.mem_map]
  constructor
  · rintro ⟨y, hy, e⟩
    have : y = x := by rw [← hg y, e, hg]
    exact this ▸ hy
  · intro h; exact ⟨x, h, rfl⟩
theorem fMiss_name {g : Int → Int} (hg : ∀ x, g (g x) = x) (x : Int) (K : List Int) : fMiss (g x) (K.map g) = fMiss x K := by
  unfold fMiss; simp only [fMemName hg]
theorem costF_name {g : Int → Int} (hg : ∀ x, g (g x) = x) (f : Nat) : ∀ (l K : List Int), costF f (K.map g) (l.map g) = costF f K l
  | [], _ => rfl
  | x :: r, K => by
    have hs : stepF f (K.map g) (g x) = (stepF f K x).map g := by
      unfold stepF
      simp only [fMemName hg, List.length_map]
      split
      · rfl
      · split
        · simp
        · simp
    simp only [List.map_cons, costF, hs, fMiss_name hg, costF_name hg f r]
theorem rcp_name {g : Int → Int} (hg : ∀ x, g (g x) = x) : ∀ (p : List Int), rcp (p.map g) = (rcp p).map g
  | [] => rfl
  | x :: p => by
    simp only [List.map_cons, rcp, rcp_name hg p, List.filter_map]
    congr 2
    refine List.filter_congr (fun a _ => ?_)
    show decide (g a ≠ g x) = decide (a ≠ x)
    rw [decide_eq_decide]
    constructor
    · intro h e; exact h (by rw [e])
    · intro h e; exact h (by rw [← hg a, e, hg])
theorem costL_name {g : Int → Int} (hg : ∀ x, g (g x) = x) (f : Nat) : ∀ (l p : List Int), costL f (p.map g) (l.map g) = costL f p l
  | [], _ => rfl
  | x :: r, p => by
    have h := costL_name hg f r (x :: p)
    rw [List.map_cons] at h
    simp only [List.map_cons, costL, h, rcp_name hg, ← List.map_take, fMiss_name hg]
theorem FRun.name {g : Int → Int} (hg : ∀ x, g (g x) = x) {f : Nat} : ∀ {l S : List Int} {n : Nat}, FRun f S l n → FRun f (S.map g) (l.map g) n
  | [], _, _, _ => trivial
  | x :: r, S, n, ⟨T, m, h1, h2, h3, h4, h5⟩ => ⟨T.map g, m, by rw [List.length_map]; exact h1, (fMemName hg).2 h2, fun y hy => by
      obtain ⟨z, hz, rfl⟩ := List.mem_map.1 hy
      exact (h3 z hz).imp (fun e => by rw [e]) (fun h => (fMemName hg).2 h), FRun.name hg h4, by rw [fMiss_name hg]; exact h5⟩
theorem costB_name {ev : List Int → List Int → Nat} (hev : FLate ev) {f : Nat} (hf : 0 < f) {g : Int → Int} (hg : ∀ x, g (g x) = x) (l : List Int) : costB ev f [] (l.map g) = costB ev f [] l := by
  have key : ∀ l : List Int, costB ev f [] (l.map g) ≤ costB ev f [] l := fun l =>
    costB_le hev hf _ [] _ List.nodup_nil (Nat.zero_le _) (FRun.name hg (costB_run hev hf l [] (Nat.zero_le _)))
  refine Nat.le_antisymm (key l) ?_
  have h := key (l.map g)
  rw [List.map_map] at h
  have e : l.map (g ∘ g) = l := by
    have e2 : g ∘ g = id := funext hg
    rw [e2, List.map_id]
  rwa [e] at h
end Go.Proofs.Ytfnmnegddhggaaa
namespace Go.Proofs.Ytfnmnegddhggaaa
open Go.ChangeShapes Go.WideShapes Go.ChangeAt Go.RowKit
set_option linter.unusedVariables false
set_option linter.unusedSimpArgs false
theorem fact_names {xs : List Int} {f : Int} (h : 0 ≤ ffirst xs f) : ffirst (xs.map (fun x => 15 - x)) f = ffirst xs f ∧ flast (xs.map (fun x => 15 - x)) f = flast xs f ∧ fbest (xs.map (fun x => 15 - x)) f = fbest xs f := by
  obtain ⟨F, q⟩ := ft_of (.inl h)
  have hF : 0 < F := by have := q.lo; omega
  have ho := trOk_iff.1 q.ok
  have hok : trOk (xs.map (fun x => 15 - x)) = true := trOk_iff.2 ⟨fun x hx => by
    obtain ⟨y, hy, rfl⟩ := List.mem_map.1 hx
    have := ho.1 y hy
    omega, by rw [List.length_map]; exact ho.2⟩
  have q2 := ft_mk hok q.lo q.hi
  have hf := q.eq
  rw [q.first, q.last, q.best]
  subst hf
  rw [q2.first, q2.last, q2.best]
  have hg : ∀ x : Int, (fun x : Int => 15 - x) ((fun x : Int => 15 - x) x) = x := fun x => by show 15 - (15 - x) = x; omega
  have a1 := costF_name hg F xs []
  have a2 := costL_name hg F xs []
  have a3 := costB_name evL_late hF hg xs
  rw [List.map_nil] at a1 a2
  rw [a1, a2, a3]
  exact ⟨rfl, rfl, rfl⟩
end Go.Proofs.Ytfnmnegddhggaaa
namespace Go.Proofs.Ytfnmnegddhggaaa
open Go.ChangeShapes Go.WideShapes Go.ChangeAt Go.RowKit
set_option linter.unusedVariables false
set_option linter.unusedSimpArgs false
theorem fact_in {xs : List Int} {f : Int} (h : 0 ≤ ffirst xs f) : ∀ i, i < xs.length → 0 ≤ xs.getD i 0 ∧ xs.getD i 0 ≤ 15 := fun i hi => by
  obtain ⟨F, q⟩ := ft_of (.inl h)
  rw [getD_lt hi]
  exact (trOk_iff.1 q.ok).1 _ (List.getElem_mem hi)
set_option maxRecDepth 100000 in
set_option maxHeartbeats 2000000 in
theorem faultsNames_walk (ctv : CTV) (cts : CTS) (cff : CFF) (cfl : CFL) (cfb : CFB) (W : World) (a : Option Addr) (len cap : Nat) (zs : List Int) (hr : Row .u8 W a len cap zs) :
    Calls Try.prog 11 #[.slice a len cap] W fun e w' => e = .returned (.bool true) ∧ Below W.heap.size W w' := by
  have hm := row_len hr
  by_cases hL : 1048576 < len
  · have hL1 : (1048576 : Int) < (len : Int) := by omega
    clear hr
    go_enter Try.func11, Try.ntmps11
    go_wp2_with fail
    go_ret
    exact ⟨rfl, Below.refl _ _⟩
  have hL1 : decide ((1048576 : Int) < (len : Int)) = false := by simp; omega
  have hL2 : decide (1048576 < len) = false := by simp; omega
  go_enter Try.func11, Try.ntmps11
  go_wp2_with fail
  refine (drawFaultsFirst_any W a len cap zs hr).mono ?_
  clear hr
  rintro e w1 ⟨v, ys, f, rfl, hf, hd⟩
  have B1 := Lib.hid hd.bel
  have R1 := Lib.hid hd.ints
  have hl25 := hd.len
  obtain ⟨g, c, hv⟩ := hd.form
  clear hd
  subst hv
  have HF := Lib.hid (fun (w : World) (h : Ints w (.slice (some ⟨g, 0, none⟩) ys.length c) ys) => cff w _ ys f h)
  have SF := Lib.hid (fun (w : World) (h : Ints w (.slice (some ⟨g, 0, none⟩) ys.length c) ys) => sFaultsFirst_any w _ ys f h)
  have HL := Lib.hid (fun (w : World) (h : Ints w (.slice (some ⟨g, 0, none⟩) ys.length c) ys) => cfl w _ ys f h)
  have HB := Lib.hid (fun (w : World) (h : Ints w (.slice (some ⟨g, 0, none⟩) ys.length c) ys) => cfb w _ ys f h)
  have FA := Lib.hid ((fun h => fact_names h : 0 ≤ ffirst ys f → _))
  have FI := Lib.hid ((fun h => fact_in h : 0 ≤ ffirst ys f → _))
  have HYN : Hid (ys.length ≤ 25) := Lib.hid hl25
  obtain ⟨n, hn⟩ : ∃ n, n = ys.length := ⟨_, rfl⟩
  rw [← hn] at hl25 R1 HF SF HL HB ⊢
  have HN := Lib.hid hn
  clear hn
  have YF := Lib.hid (fun (w : World) (v : Value) (h : Ints w v (ys.map (fun x => 15 - x))) => cff w v _ f h)
  have YL := Lib.hid (fun (w : World) (v : Value) (h : Ints w v (ys.map (fun x => 15 - x))) => cfl w v _ f h)
  have YB := Lib.hid (fun (w : World) (v : Value) (h : Ints w v (ys.map (fun x => 15 - x))) => cfb w v _ f h)
  generalize ffirst (ys.map (fun x => 15 - x)) f = yf at YF FA
  generalize flast (ys.map (fun x => 15 - x)) f = yl at YL FA
  generalize fbest (ys.map (fun x => 15 - x)) f = yb at YB FA
  generalize ffirst ys f = zf at HF SF FA FI
  generalize flast ys f = zl at HL FA
  generalize fbest ys f = zb at HB FA
  go_wp2_with fail
  refine (HF.out w1 R1.out).mono ?_
  rintro e w2 ⟨rfl, hb⟩
  have B2 := Lib.hid (B1.out.trans (hb.mono B1.out.size))
  have R2 := Lib.hid (Ints.below (B := 0) R1.out hb)
  clear hb
  go_wp2_with fail
  refine (SF.out w2 R2.out).mono ?_
  rintro e w3 ⟨rfl, hb⟩
  have B3 := Lib.hid (B2.out.trans (hb.mono B2.out.size))
  have R3 := Lib.hid (Ints.below (B := 0) R2.out hb)
  clear hb
  by_cases hz : zf < 0
  · go_wp2_with fail
    go_ret
    exact ⟨rfl, B3.out⟩
  · have hz1 : decide (zf < 0) = false := by simp; omega
    have FIN := Lib.hid (FI.out (by omega))
    obtain ⟨rfl, rfl, rfl⟩ := FA.out (by omega)
    clear FA FI
    have HST := Lib.hid (OwnI.start w3)
    go_wp2_with fail
    go_loopw [7, 8] (fun xv i wr => ∃ m : Nat, m ≤ n ∧ i = .int .i64 m ∧ Hid (OwnI w3 xv ((ys.take m).map (fun x => 15 - x)) wr)) (fun _ i _ => n - (intOf i).toNat)
    case atStart => exact ⟨0, Nat.zero_le _, rfl, HST⟩
    case round =>
      obtain ⟨m, hm, rfl, HX⟩ := hrel
      have RR := Lib.hid (Ints.below (B := 0) R3.out HX.out.bel)
      by_cases hlt : m < n
      · have hlt1 : (m : Int) < (n : Int) := by omega
        have hcell := ints_cell RR.out hlt
        have hy2 := FIN.out m (by rw [← HN.out]; exact hlt)
        have HTK : Hid (ys.take (m + 1) = ys.take m ++ [ys.getD m 0]) := Lib.hid (take_snoc_getD ys m 0 (by rw [← HN.out]; exact hlt))
        obtain ⟨y, hy⟩ : ∃ y, y = ys.getD m 0 := ⟨_, rfl⟩
        rw [← hy] at hcell HTK hy2
        have hw : IntKind.i64.wrap (15 - y) = 15 - y := by rw [IntKind.wrap_i64]; omega
        clear hy
        go_wp2_with (at_builtin; refine wpList_append_nums _ _ w3 _ _ _ [15 - y] _ 1 HX.out rfl rfl (by rw [List.length_map, List.length_take]; simp; omega) rfl rfl ?_; intro v6 w6 hown; have HO := Lib.hid hown; clear hown)
        go_roundw
        case rel => exact ⟨m + 1, by omega, by go_num, Lib.hid (by rw [HTK.out, List.map_append]; exact HO.out)⟩
        case measure => simp [intOf]; omega
      · obtain rfl : m = n := by omega
        have B4 := Lib.hid (B3.out.trans (HX.out.bel.mono B3.out.size))
        have X4 : Hid (Ints wr u7 (ys.map (fun x => 15 - x))) := Lib.hid (by have := HX.out.ints; rwa [HN.out, List.take_length] at this)
        have R4 := RR
        clear RR HX
        go_wp2_with fail
        refine (YF.out wr _ X4.out).mono ?_
        rintro e w5 ⟨rfl, hb⟩
        have B5 := Lib.hid (B4.out.trans (hb.mono B4.out.size))
        have R5 := Lib.hid (Ints.below (B := 0) R4.out hb)
        have X5 := Lib.hid (Ints.below (B := 0) X4.out hb)
        clear hb
        go_wp2_with fail
        refine (YL.out w5 _ X5.out).mono ?_
        rintro e w6 ⟨rfl, hb⟩
        have B6 := Lib.hid (B5.out.trans (hb.mono B5.out.size))
        have R6 := Lib.hid (Ints.below (B := 0) R5.out hb)
        have X6 := Lib.hid (Ints.below (B := 0) X5.out hb)
        clear hb
        go_wp2_with fail
        refine (HL.out w6 R6.out).mono ?_
        rintro e w7 ⟨rfl, hb⟩
        have B7 := Lib.hid (B6.out.trans (hb.mono B6.out.size))
        have R7 := Lib.hid (Ints.below (B := 0) R6.out hb)
        have X7 := Lib.hid (Ints.below (B := 0) X6.out hb)
        clear hb
        go_wp2_with fail
        refine (YB.out w7 _ X7.out).mono ?_
        rintro e w8 ⟨rfl, hb⟩
        have B8 := Lib.hid (B7.out.trans (hb.mono B7.out.size))
        have R8 := Lib.hid (Ints.below (B := 0) R7.out hb)
        have X8 := Lib.hid (Ints.below (B := 0) X7.out hb)
        clear hb
        go_wp2_with fail
        refine (HB.out w8 R8.out).mono ?_
        rintro e w9 ⟨rfl, hb⟩
        have B9 := Lib.hid (B8.out.trans (hb.mono B8.out.size))
        have R9 := Lib.hid (Ints.below (B := 0) R8.out hb)
        have X9 := Lib.hid (Ints.below (B := 0) X8.out hb)
        clear hb
        go_wp2_with fail
        go_ret
        exact ⟨rfl, B9.out⟩
end Go.Proofs.Ytfnmnegddhggaaa
