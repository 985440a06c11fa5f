/- What the proofs stand on, part 34. -/
import Derived.Test.YtachiggolgdocaaRows
import Derived.Test.YtachiggolgdocaaM1
import Derived.Test.YtachiggolgdocaaM2
import Derived.Test.YtachiggolgdocaaM3
import Derived.Test.YtachiggolgdocaaM4
import Derived.Test.YtachiggolgdocaaM5
import Derived.Test.YtachiggolgdocaaM6
import Derived.Test.YtachiggolgdocaaM7
import Derived.Test.YtachiggolgdocaaM8
import Derived.Test.YtachiggolgdocaaM9
import Derived.Test.YtachiggolgdocaaM10
import Derived.Test.YtachiggolgdocaaM11
import Derived.Test.YtachiggolgdocaaM12
import Derived.Test.YtachiggolgdocaaM13
import Derived.Test.YtachiggolgdocaaM14
import Derived.Test.YtachiggolgdocaaM15
import Derived.Test.YtachiggolgdocaaM17
import Derived.Test.YtachiggolgdocaaM28
set_option linter.unusedSimpArgs false
set_option linter.unusedVariables false
namespace Go.Proofs.Ytachiggolgdocaa
open Go.ChangeShapes Go.WideShapes Go.ChangeAt Go.RowKit
set_option linter.unusedVariables false
def DrewI1 (W : World) (e : Ending) (w' : World) : Prop := ∃ v ys x, e = .returned (.tuple #[v, ivV x]) ∧ DIs W v ys w'
end Go.Proofs.Ytachiggolgdocaa
namespace Go.Proofs.Ytachiggolgdocaa
open Go.ChangeShapes Go.WideShapes Go.ChangeAt Go.RowKit
set_option linter.unusedVariables false
theorem row_alloc {k : IntKind} {w : World} {a : Option Addr} {len cap : Nat} {zs : List Int} (h : Row k w a len cap zs) (o : Obj) : Row k (w.alloc o) a len cap zs := by
  rcases h with h | ⟨x, rfl, hl, hm, hz, hcell, hwz⟩
  · exact .inl h
  · refine .inr ⟨x, rfl, hl, hm, hz, fun i hi => ?_, hwz⟩
    have h1 := hcell i hi
    have hlt : (x.add i).block < w.heap.size := World.block_lt_of_cell? _ _ h1
    exact (World.cell?_of_block (Below.heap_alloc w o _ hlt)).trans h1
theorem results_tmp_mid {P : Program} {fn : Func} {t p : Tmp} {ty : TypeId} (h : fn.results = #[.tmp t, .cell p ty]) (tmps : Array Value) (w : World) (b o : Nat) (cs : List Value) (d : TypeDesc)
    (hp : tmps.getD p undef = .pointer (some ⟨b, o, none⟩)) (hc : w.rangeAt b o cs) (hu : P.underlying ty = some d) (hd : d.isRow = true) (hi : (P.info? ty).map (·.size) = some cs.length) :
    (results fn tmps).run P w = .ok (.tuple #[tmps.getD t undef, .agg cs.toArray]) w := by
  have hp' : tmps[p]?.getD undef = .pointer (some ⟨b, o, none⟩) := by simpa using hp
  simp [results, h, hp', asAddr, run_loadVar_mid w b o ty cs d hc hu hd hi, Result.andThen]
set_option maxRecDepth 100000 in
set_option maxHeartbeats 2000000 in
theorem drawMailSend_any (W : World) (a : Option Addr) (len cap : Nat) (zs : List Int) (hr : Row .u8 W a len cap zs) :
    Calls Try.prog 15 #[.slice a len cap] W (DrewI1 W) := by
  go_enter Try.func15, Try.ntmps15
  go_wp2_with fail
  have hRES : (W.alloc (.cells #[.int .i64 0, .int .i64 0, .int .i64 0] 25)).there W.heap.size 0 3 := there_row (heap_alloc_new W _) (by simp)
  have hr2 := row_alloc hr (.cells #[.int .i64 0, .int .i64 0, .int .i64 0] 25)
  have hB0 : Below W.heap.size W (W.alloc (.cells #[.int .i64 0, .int .i64 0, .int .i64 0] 25)) := (Below.refl _ _).alloc (Nat.le_refl _) _
  have hsz : (W.alloc (.cells #[.int .i64 0, .int .i64 0, .int .i64 0] 25)).heap.size = W.heap.size + 1 := by simp
  obtain ⟨W1, hW1⟩ : ∃ W1, W.alloc (.cells #[.int .i64 0, .int .i64 0, .int .i64 0] 25) = W1 := ⟨_, rfl⟩
  rw [hW1] at hRES hr2 hB0 hsz ⊢
  have HSZ := Lib.hid hsz
  clear hW1 hr hsz
  refine (open_any W1 a len cap zs hr2).mono ?_
  clear hr2
  rintro e w1 ⟨rfl, hR1⟩
  have HS1 := Lib.hid (rdr_below hR1).size
  go_wp2_with fail
  refine (mails_any W1 _ _ _ hR1 (by omega)).mono ?_
  rintro e w2 ⟨v, ys, rfl, hl, h⟩
  have H := Lib.hid h
  have HL := Lib.hid hl
  clear h hR1 hl
  go_wp2_with fail
  refine (mail_any W1 _ _ _ H.out.rdr (by omega)).mono ?_
  rintro e w3 ⟨x, rfl, hR3, hg3⟩
  have HD := Lib.hid (H.out.drew hR3 hg3)
  have HT : Hid (w3.there W.heap.size 0 3) := Lib.hid (there_blocks hRES ((rdr_below hR3).block _ (by rw [HSZ.out]; omega)))
  clear H hR3 hg3 hRES
  go_wp2_with ((with_reducible refine store_is 25 (.tmp 3) (.tmp 12) ?_); refine store_arr 25 (.tmp 3) (.tmp 12) W.heap.size 0 #[.int .i64 x.k, .int .i64 x.g, .int .i64 x.r] rfl rfl HT.out info_iv (ivBits x) ?_)
  try simp only [Act.put]
  refine bodyPost_ret (results_tmp_mid rfl _ _ W.heap.size 0 (ivC x) _ rfl (World.rangeAt_setCells_same _ _ _ _ HT.out) Try.underlying25 rfl (by kernel_rfl)) rfl ?_
  refine ⟨_, ys, x, rfl, ⟨(HD.out.row.out_box (by have := HS1.out; have := HSZ.out; omega)).is, HL.out, ?_, HD.out.form⟩⟩
  exact Below.setCells (Below.refl _ _) _ (Nat.le_refl _) _ _ _ (hB0.trans ((rdr_below HD.out.rdr).mono (by rw [HSZ.out]; omega)))
end Go.Proofs.Ytachiggolgdocaa
