/- Slices of translations (four cells each), said of a world's cells. -/
import Derived.Test.YtklclcbhghjjfaaRows
import Derived.Test.YtklclcbhghjjfaaMem
namespace Go.Proofs.Ytklclcbhghjjfaa
open Go.ChangeShapes Go.WideShapes Go.ChangeAt Go.RowKit
set_option linter.unusedVariables false

/-- a translation -/
structure CV where
  e : Int
  p : Int
  f : Int
  b : Bool
deriving DecidableEq
instance : Inhabited CV := ⟨⟨0, 0, 0, false⟩⟩
def c0 : CV := ⟨0, 0, 0, false⟩
def cvC (x : CV) : List Value := [.int .i64 x.e, .int .i64 x.p, .int .i64 x.f, .bool x.b]
abbrev cvV (x : CV) : Value := .agg #[.int .i64 x.e, .int .i64 x.p, .int .i64 x.f, .bool x.b]
/-- the four cells of a translation lie at offset o of block b -/
structure Four (w : World) (b o : Nat) (x : CV) : Prop where
  c0 : w.cell? ⟨b, o, none⟩ = some (.int .i64 x.e)
  c1 : w.cell? ⟨b, o + 1, none⟩ = some (.int .i64 x.p)
  c2 : w.cell? ⟨b, o + 2, none⟩ = some (.int .i64 x.f)
  c3 : w.cell? ⟨b, o + 3, none⟩ = some (.bool x.b)
/-- the slice v holds the translations xs -/
def Cs (w : World) (v : Value) (xs : List CV) : Prop :=
  ∃ (a : Option Addr) (cap : Nat), v = .slice a xs.length cap ∧ xs.length ≤ cap ∧ cap ≤ maxLen ∧
    ∀ i, i < xs.length → ∃ b o, a = some ⟨b, o, none⟩ ∧ Four w b (o + i * 4) (xs.getD i c0)
theorem Cs.drewN {w : World} {v : Value} {xs : List CV} (h : Cs w v xs) (n : Nat) : Cs (w.drewN n) v xs := by
  obtain ⟨a, c, e, h1, h2, h3⟩ := h
  refine ⟨a, c, e, h1, h2, fun i hi => ?_⟩
  obtain ⟨b, o, e2, h4⟩ := h3 i hi
  exact ⟨b, o, e2, ⟨h4.c0, h4.c1, h4.c2, h4.c3⟩⟩
theorem Four.below {w w' : World} {B b o : Nat} {x : CV} (h : Four w b o x) (hb : Below B w w') (hB : b < B) : Four w' b o x :=
  ⟨(hb.cell (p := ⟨b, _, none⟩) hB).trans h.c0, (hb.cell (p := ⟨b, _, none⟩) hB).trans h.c1, (hb.cell (p := ⟨b, _, none⟩) hB).trans h.c2, (hb.cell (p := ⟨b, _, none⟩) hB).trans h.c3⟩

theorem Cs.below {w w' : World} {v : Value} {xs : List CV} (h : Cs w v xs) (hb : Below w.heap.size w w') : Cs w' v xs := by
  obtain ⟨a, c, e, h1, h2, h3⟩ := h
  refine ⟨a, c, e, h1, h2, fun i hi => ?_⟩
  obtain ⟨b, o, e2, h4⟩ := h3 i hi
  exact ⟨b, o, e2, h4.below hb (block_lt_of_cell h4.c0)⟩
/-- the place of the translation of a page, if there is one -/
def same (x : CV) (e p : Int) : Bool := decide (x.e = e ∧ x.p = p)
def fnd (xs : List CV) (e p : Int) : Int := (xs.findIdx? (fun x => same x e p)).elim (-1) (fun i : Nat => (i : Int))
theorem fnd_no {xs : List CV} {e p : Int} (h : ∀ i, i < xs.length → same (xs.getD i c0) e p = false) : fnd xs e p = -1 := by
  unfold fnd
  have : xs.findIdx? (fun x => same x e p) = none := by
    rw [List.findIdx?_eq_none_iff]
    intro x hx
    obtain ⟨i, hi, rfl⟩ := List.getElem_of_mem hx
    have := h i hi
    rwa [getD_lt hi] at this
  rw [this]
  rfl
theorem fnd_yes {xs : List CV} {e p : Int} {k : Nat} (hk : k < xs.length) (hy : same (xs.getD k c0) e p = true) (h : ∀ i, i < k → same (xs.getD i c0) e p = false) : fnd xs e p = k := by
  unfold fnd
  have : xs.findIdx? (fun x => same x e p) = some k := by
    rw [List.findIdx?_eq_some_iff_getElem]
    refine ⟨hk, by rwa [getD_lt hk] at hy, fun j hj => ?_⟩
    have := h j hj
    rw [getD_lt (by omega)] at this
    simpa using this
  rw [this]
  rfl
theorem Cs.at {w : World} {a : Option Addr} {n cap : Nat} {xs : List CV} (h : ∀ i, i < xs.length → ∃ b o, a = some ⟨b, o, none⟩ ∧ Four w b (o + i * 4) (xs.getD i c0)) {k : Nat} (hk : k < xs.length) :
    ∃ b o, a = some ⟨b, o, none⟩ ∧ Four w b (o + k * 4) (xs.getD k c0) := h k hk

set_option maxRecDepth 100000 in
theorem l4Find_any (w : World) (v : Value) (xs : List CV) (e p : Int) (h : Cs w v xs) :
    Calls Try.prog 50 #[v, .int .i64 e, .int .i64 p] w fun en w' => en = .returned (.int .i64 (fnd xs e p)) ∧ w = w' := by
  obtain ⟨a, cap, rfl, h1, h2, h3⟩ := h
  unfold maxLen at h2
  obtain ⟨R, HRR⟩ : ∃ R : Int, Hid (R = fnd xs e p) := ⟨_, Lib.hid rfl⟩
  rw [← HRR.out]
  have H3 := Lib.hid h3
  clear h3
  obtain ⟨m, hm⟩ : ∃ m, m = xs.length := ⟨_, rfl⟩
  have HM := Lib.hid hm
  rw [← hm] at h1 ⊢
  clear hm
  go_enter Try.func50, Try.ntmps50
  go_wp2
  go_loopw [7] (fun i wr => ∃ k : Nat, k ≤ m ∧ i = .int .i64 k ∧ wr = w ∧ Hid (∀ j, j < k → same (xs.getD j c0) e p = false)) (fun i _ => m - (intOf i).toNat)
  case atStart => exact ⟨0, Nat.zero_le _, rfl, rfl, Lib.hid (fun j hj => by omega)⟩
  case round =>
    obtain ⟨k, hk, rfl, rfl, HNO⟩ := hrel
    by_cases hlt : k < m
    · obtain ⟨b, o, rfl, hf⟩ := H3.out k (by have := HM.out; omega)
      obtain ⟨x, hx⟩ : ∃ x, x = xs.getD k c0 := ⟨_, rfl⟩
      rw [← hx] at hf
      have HX := Lib.hid hx
      clear hx
      obtain ⟨h0, h1', h2', h3'⟩ := hf
      by_cases he : x.e = e
      · have e1 : (x.e == e) = true := by simpa using he
        by_cases hp : x.p = p
        · have e2 : (x.p == p) = true := by simpa using hp
          have HR : Hid (R = (k : Int)) := Lib.hid (by
            rw [HRR.out]
            exact fnd_yes (by have := HM.out; omega) (by rw [← HX.out]; exact decide_eq_true ⟨he, hp⟩) HNO.out)
          clear he hp
          go_wp2
          go_ret
          exact ⟨by rw [HR.out]; rfl, rfl⟩
        · have e2 : (x.p == p) = false := by simpa using hp
          have HN2 : Hid (∀ j, j < k + 1 → same (xs.getD j c0) e p = false) := Lib.hid (fun j hj => by
            by_cases hjk : j < k
            · exact HNO.out j hjk
            · obtain rfl : j = k := by omega
              rw [← HX.out]; exact decide_eq_false (fun hh => hp hh.2))
          clear he hp
          go_wp2
          go_roundw
          case rel => exact ⟨k + 1, by omega, by go_num, trivial, HN2⟩
          case measure => simp [intOf]; omega
      · have e1 : (x.e == e) = false := by simpa using he
        have HN2 : Hid (∀ j, j < k + 1 → same (xs.getD j c0) e p = false) := Lib.hid (fun j hj => by
          by_cases hjk : j < k
          · exact HNO.out j hjk
          · obtain rfl : j = k := by omega
            rw [← HX.out]; exact decide_eq_false (fun hh => he hh.1))
        clear he
        go_wp2
        go_roundw
        case rel => exact ⟨k + 1, by omega, by go_num, trivial, HN2⟩
        case measure => simp [intOf]; omega
    · have ek : k = m := by omega
      subst ek
      have HR : Hid (R = -1) := Lib.hid (by
        rw [HRR.out]
        exact fnd_no (fun i hi => HNO.out i (by have := HM.out; omega)))
      go_wp2
      go_ret
      exact ⟨by rw [HR.out]; rfl, rfl⟩
end Go.Proofs.Ytklclcbhghjjfaa
