/- What the holding helpers of the laws return where the marks stand: the next number; they change nothing. -/
import Derived.Test.YtdockkmodjbfpaaMark
namespace Go.Proofs.Ytdockkmodjbfpaa
open Go.ChangeShapes Go.WideShapes Go.ChangeAt Go.RowKit
set_option linter.unusedVariables false

theorem heldIntS_any (w : World) (a : Option Addr) (n cap : Nat) (k : Int) (hn : n ≤ 1048576) (hk : 0 ≤ k) (hk2 : k ≤ 1000000000000)
    (h : ∀ i, i < n → ∃ g p, a = some ⟨g, p, none⟩ ∧ w.cell? ⟨g, p + i, none⟩ = some (.int .i64 (k + i))) :
    Calls Try.prog 35 #[.slice a n cap, .int .i64 k] w fun e w' => e = .returned (.int .i64 (k + n)) ∧ w = w' := by
  have H := Lib.hid h
  clear h
  go_enter Try.func35, Try.ntmps35
  go_wp2
  go_loop [1, 5] (fun l i => ∃ j : Nat, j ≤ n ∧ i = .int .i64 j ∧ l = .int .i64 (k + j)) (fun _ i => n - (intOf i).toNat)
  case atStart => exact ⟨0, Nat.zero_le _, rfl, by simp⟩
  case round =>
    obtain ⟨j, hj, rfl, rfl⟩ := hrel
    by_cases hlt : j < n
    · obtain ⟨g, p, rfl, hc⟩ := H.out j hlt
      have hlt' : (j : Int) < (n : Int) := by omega
      go_wp2
      go_round
      case rel => exact ⟨j + 1, by omega, by go_num, by go_num⟩
      case measure => simp [intOf]; omega
    · go_wp2
      go_ret
      have e : j = n := by omega
      subst e
      exact ⟨rfl, rfl⟩

/-- what is read of the rows of a matrix -/
theorem MatAt.rows {w : World} {B0 B1 : Nat} {a : Option Addr} {cap : Nat} {A : Nat → Option Addr} {L C : Nat → Nat} {X : Nat → Nat → Int} {xss : List (List Int)}
    (h : MatAt w B0 B1 a xss.length A L C X) (hc : xss.length ≤ cap) (hm : cap ≤ maxLen) (hL : ∀ j, j < xss.length → L j = (xss.getD j []).length) (hX : ∀ j, j < xss.length → ∀ i, i < L j → X j i = (xss.getD j []).getD i 0) :
    Rows2 w (.slice a xss.length cap) xss := by
  refine ⟨a, cap, rfl, hc, hm, fun j hj => ?_⟩
  obtain ⟨b, o, rfl, _, _, h3, h4, h5⟩ := h.top j hj
  refine ⟨b, o, _, rfl, h3, A j, C j, by rw [hL j hj], by rw [← hL j hj]; exact h4, h5.1, fun i hi => ?_⟩
  rw [← hL j hj] at hi
  obtain ⟨g, p, e, _, _, h6, _⟩ := h.row j hj i hi
  exact ⟨g, p, e, by rw [h6, hX j hj i hi]⟩

/-- own rows, as a matrix -/
theorem OwnRows.mat {w : World} {g : Nat} {v : Value} {xss : List (List Int)} (h : OwnRows w g v xss) :
    v = .slice (some ⟨g, 0, none⟩) xss.length xss.length ∧
    MatAt w g (g + 1 + xss.length) (some ⟨g, 0, none⟩) xss.length (fun j => some ⟨g + 1 + j, 0, none⟩) (fun j => (xss.getD j []).length) (fun j => (xss.getD j []).length) (fun j i => (xss.getD j []).getD i 0) := by
  obtain ⟨rfl, hm, hr, hx⟩ := h
  refine ⟨rfl, fun j hj => ?_, fun j hj i hi => ?_, fun j hj j' hj' hne _ _ g1 p1 g2 p2 e1 e2 => ?_⟩
  · exact ⟨g, 0, rfl, Nat.le_refl _, by omega, by simpa using hr.cell hj, Nat.le_refl _, (hx j hj).2.1, by simpa using hr.frozen j⟩
  · exact ⟨g + 1 + j, 0, rfl, by omega, by omega, by simpa using (hx j hj).2.2.cell hi, (hx j hj).2.2.frozen _, fun b o e => by cases e; omega⟩
  · cases e1; cases e2
    exact .inl (by omega)
theorem OwnRows.rows {w : World} {g : Nat} {v : Value} {xss : List (List Int)} (h : OwnRows w g v xss) : Rows2 w v xss := by
  obtain ⟨rfl, hm⟩ := h.mat
  exact hm.rows (Nat.le_refl _) h.2.1 (fun _ _ => rfl) (fun _ _ _ _ => rfl)
theorem OwnRows.of_blocks {w w' : World} {g : Nat} {v : Value} {xss : List (List Int)} (h : OwnRows w g v xss) (e : ∀ b, g ≤ b → b < g + 1 + xss.length → w'.heap[b]? = w.heap[b]?) : OwnRows w' g v xss :=
  ⟨h.1, h.2.1, h.2.2.1.of_block (e g (Nat.le_refl _) (by omega)), fun j hj => (h.2.2.2 j hj).of_block (e (g + 1 + j) (by omega) (by omega))⟩
theorem MatAt.of_blocks {w w' : World} {B0 B1 : Nat} {a : Option Addr} {n : Nat} {A : Nat → Option Addr} {L C : Nat → Nat} {X : Nat → Nat → Int} (h : MatAt w B0 B1 a n A L C X)
    (e : ∀ b, B0 ≤ b → b < B1 → w'.heap[b]? = w.heap[b]?) : MatAt w' B0 B1 a n A L C X := by
  refine ⟨fun j hj => ?_, fun j hj i hi => ?_, h.apart⟩
  · obtain ⟨b, o, e1, h1, h2, h3, h4⟩ := h.top j hj
    exact ⟨b, o, e1, h1, h2, (World.cell?_of_block (e b h1 h2)).trans h3, h4.1, h4.2.1, (World.frozen?_of_block (e b h1 h2)).trans h4.2.2⟩
  · obtain ⟨g, p, e1, h1, h2, h3, h4, h5⟩ := h.row j hj i hi
    exact ⟨g, p, e1, h1, h2, (World.cell?_of_block (e g h1 h2)).trans h3, (World.frozen?_of_block (e g h1 h2)).trans h4, h5⟩
theorem off_total (xss : List (List Int)) (m : Nat) (h : m ≤ xss.length) : off (fun j => (xss.getD j []).length) m = total (xss.take m) := by
  induction m with
  | zero => simp [off, total]
  | succ m ih => rw [total_snoc xss m (by omega), ← ih (by omega)]; rfl
theorem off_all (xss : List (List Int)) : off (fun j => (xss.getD j []).length) xss.length = total xss := by
  rw [off_total xss _ (Nat.le_refl _), List.take_length]
end Go.Proofs.Ytdockkmodjbfpaa
