/- Mail: what its calls do to boxes that the law's own 'awake' makes. -/
import Derived.Test.YtdgdmlchegjejaaBase3
import Derived.BigQuiet
import Derived.Deep.QuietTactic
import Derived.Conc.LoneCalls
import Derived.Conc.LoneSelectN
import Derived.KernelRfl
namespace Go.Proofs.Ytdgdmlchegjejaa.MailA
open Go.Conc Go.RowKit Go.Proofs.Ytdgdmlchegjejaa.Base Go.Proofs.Ytdgdmlchegjejaa.Base2

/-- A block that is mail: two boxes. -/
def M2 (w : World) (g cu cp : Nat) : Prop := w.heap[g]? = some (.cells #[.chan (some cu), .chan (some cp)] 79 (0, 0))
def Box (w : World) (c : Nat) (buf : Array Value) (s r : Nat) : Prop := w.heap[c]? = some (.chan 1 buf false s r false)
theorem M2.facts {w : World} {g cu cp : Nat} (h : M2 w g cu cp) : w.cell? ⟨g, 0, none⟩ = some (.chan (some cu)) ∧ w.cell? ⟨g, 1, none⟩ = some (.chan (some cp)) := ⟨(cell_of_row w g 0 _ _ _ h).trans rfl, (cell_of_row w g 1 _ _ _ h).trans rfl⟩
theorem other (w : World) (c c' cap : Nat) (buf : Array Value) (closed : Bool) (s r : Nat) (tm : Bool) (h : c ≠ c') : (w.setChan c cap buf closed s r tm).heap[c']? = w.heap[c']? := by
  simp [World.setChan, Array.getElem?_setIfInBounds_ne h]
theorem res_s (c : Nat) (u z : Value) : commResult #[scase c u z] .select ((0 : Nat) : Int) undef false = .tuple #[goInt 0, .bool false] := by
  simp [commResult, scase, List.zipIdx_cons]
theorem res_sd (c : Nat) (u z : Value) : commResult #[scase c u z] .select (-1) undef false = .tuple #[goInt (-1), .bool false] := by
  simp [commResult, scase, List.zipIdx_cons]
theorem res_r (c : Nat) (z v : Value) : commResult #[rcase c z] .select ((0 : Nat) : Int) v true = .tuple #[goInt 0, .bool true, v] := by
  simp [commResult, rcase, List.zipIdx_cons]
theorem take_nil (w : World) : Calls Try.prog 33 #[.pointer none] w fun e w' => e = .returned (.tuple #[.int .i64 0, .bool false, .bool false]) ∧ Below w.heap.size w w' := by
  go_enter Try.func33, Try.ntmps33
  go_wp2
  go_ret3
  exact ⟨rfl, Below.refl _ _⟩
theorem put_nil (x : Int) (u : Bool) (w : World) : Calls Try.prog 35 #[.pointer none, .int .i64 x, .bool u] w fun e w' => e = .returned (.bool false) ∧ Below w.heap.size w w' := by
  go_enter Try.func35, Try.ntmps35
  go_wp2
  go_ret
  exact ⟨rfl, Below.refl _ _⟩
theorem len_nil (w : World) : Calls Try.prog 36 #[.pointer none] w fun e w' => e = .returned (.int .i64 0) ∧ Below w.heap.size w w' := by
  go_enter Try.func36, Try.ntmps36
  go_wp2
  go_ret
  exact ⟨rfl, Below.refl _ _⟩
set_option maxRecDepth 100000 in
theorem put_plain (g cu cp s r : Nat) (x : Int) (w : World) (h : M2 w g cu cp) (hB : Box w cp #[] s r) : Calls Try.prog 35 #[.pointer (some ⟨g, 0, none⟩), .int .i64 x, .bool false] w fun e w' => e = .returned (.bool true) ∧ w' = w.setChan cp 1 #[.int .i64 x] false (s + 1) r false := by
  obtain ⟨c0, c1⟩ := h.facts
  refine calls_of_loneTo fun cs => ?_
  have e : Frame.enter Try.prog 35 #[.pointer (some ⟨g, 0, none⟩), .int .i64 x, .bool false] .normal = (base 35).at ⟨#[.pointer (some ⟨g, 0, none⟩), .int .i64 x, .bool false, undef, undef, undef, undef, undef, undef, undef, undef, undef, undef, undef, undef, undef, undef, undef, undef, undef, undef, undef, undef, undef], []⟩ [.code (Try.f35.body.getD .skip)] := by
    simp [Frame.enter, Frame.at, Try.func35, base, Try.f35]
  rw [e]
  refine LoneTo.goes (n := 37) ?_
  simp only [Try.f35, Option.getD_some]
  s_c stepG_seq
  s_reg
  s_op
  s_c stepG_region_end
  s_c stepG_seq
  s_c stepG_seq
  s_reg
  s_op
  s_op
  s_c stepG_region_end
  s_cond false
  s_c stepG_skip
  s_c stepG_seq
  s_reg
  s_op
  s_op
  s_op
  s_op
  s_op
  s_c stepG_region_end
  s_c stepG_seq
  s_c stepG_seq
  s_reg
  s_op
  s_c stepG_region_end
  s_cond false
  s_c stepG_skip
  s_c stepG_seq
  s_c stepG_seq
  s_reg
  s_op
  s_c stepG_region_end
  s_reg
  s_op
  s_c stepG_region_end
  s_c stepG_seq
  s_reg
  s_stop
  refine LoneTo.step (step_lone_sel_send_room (k := 0) (c := cp) (v := .int .i64 x) (z := .int .i64 0) (cap := 1) (buf := #[]) (s := s) (r := r) (tm := false) (stepG_comm (cases := #[scase cp (.int .i64 x) (.int .i64 0)]) (blocking := false) (shape := .select) (w' := w) rfl rfl (by decide) (by simp [go_sem, execOp, rcase, scase, Act.eval])) rfl (fun m c' hm hc' => ?_) hB (by simp)) ?_
  · rcases m with _ | m
    · exact absurd rfl hm
    · simp at hc'
  rw [Frame.finish_at, res_s]
  walk_nrm
  refine LoneTo.goes (n := 10) ?_
  s_op
  s_op
  s_c stepG_region_end
  s_c stepG_block
  s_cond true
  s_c stepG_seq
  s_reg
  s_op
  s_c stepG_region_end
  s_c stepG_ret'
  s_stop
  exact LoneTo.done ⟨.returned (.bool true), _, rfl, ⟨rfl, rfl⟩, rfl, rfl, rfl, rfl, _, Try.func35, by simp [results, Try.f35, Frame.at]⟩
set_option maxRecDepth 100000 in
theorem put_urgent (g cu cp s r : Nat) (x : Int) (w : World) (h : M2 w g cu cp) (hB : Box w cu #[] s r) : Calls Try.prog 35 #[.pointer (some ⟨g, 0, none⟩), .int .i64 x, .bool true] w fun e w' => e = .returned (.bool true) ∧ w' = w.setChan cu 1 #[.int .i64 x] false (s + 1) r false := by
  obtain ⟨c0, c1⟩ := h.facts
  refine calls_of_loneTo fun cs => ?_
  have e : Frame.enter Try.prog 35 #[.pointer (some ⟨g, 0, none⟩), .int .i64 x, .bool true] .normal = (base 35).at ⟨#[.pointer (some ⟨g, 0, none⟩), .int .i64 x, .bool true, undef, undef, undef, undef, undef, undef, undef, undef, undef, undef, undef, undef, undef, undef, undef, undef, undef, undef, undef, undef, undef], []⟩ [.code (Try.f35.body.getD .skip)] := by
    simp [Frame.enter, Frame.at, Try.func35, base, Try.f35]
  rw [e]
  refine LoneTo.goes (n := 43) ?_
  simp only [Try.f35, Option.getD_some]
  s_c stepG_seq
  s_reg
  s_op
  s_c stepG_region_end
  s_c stepG_seq
  s_c stepG_seq
  s_reg
  s_op
  s_op
  s_c stepG_region_end
  s_cond false
  s_c stepG_skip
  s_c stepG_seq
  s_reg
  s_op
  s_op
  s_op
  s_op
  s_op
  s_c stepG_region_end
  s_c stepG_seq
  s_c stepG_seq
  s_reg
  s_op
  s_c stepG_region_end
  s_cond true
  s_reg
  s_op
  s_op
  s_op
  s_op
  s_op
  s_c stepG_region_end
  s_c stepG_seq
  s_c stepG_seq
  s_reg
  s_op
  s_c stepG_region_end
  s_reg
  s_op
  s_c stepG_region_end
  s_c stepG_seq
  s_reg
  s_stop
  refine LoneTo.step (step_lone_sel_send_room (k := 0) (c := cu) (v := .int .i64 x) (z := .int .i64 0) (cap := 1) (buf := #[]) (s := s) (r := r) (tm := false) (stepG_comm (cases := #[scase cu (.int .i64 x) (.int .i64 0)]) (blocking := false) (shape := .select) (w' := w) rfl rfl (by decide) (by simp [go_sem, execOp, rcase, scase, Act.eval])) rfl (fun m c' hm hc' => ?_) hB (by simp)) ?_
  · rcases m with _ | m
    · exact absurd rfl hm
    · simp at hc'
  rw [Frame.finish_at, res_s]
  walk_nrm
  refine LoneTo.goes (n := 10) ?_
  s_op
  s_op
  s_c stepG_region_end
  s_c stepG_block
  s_cond true
  s_c stepG_seq
  s_reg
  s_op
  s_c stepG_region_end
  s_c stepG_ret'
  s_stop
  exact LoneTo.done ⟨.returned (.bool true), _, rfl, ⟨rfl, rfl⟩, rfl, rfl, rfl, rfl, _, Try.func35, by simp [results, Try.f35, Frame.at]⟩
set_option maxRecDepth 100000 in
theorem put_full (g cu cp s r : Nat) (x : Int) (y : Value) (w : World) (h : M2 w g cu cp) (hB : Box w cu #[y] s r) : Calls Try.prog 35 #[.pointer (some ⟨g, 0, none⟩), .int .i64 x, .bool true] w fun e w' => e = .returned (.bool false) ∧ w' = w := by
  obtain ⟨c0, c1⟩ := h.facts
  refine calls_of_loneTo fun cs => ?_
  have e : Frame.enter Try.prog 35 #[.pointer (some ⟨g, 0, none⟩), .int .i64 x, .bool true] .normal = (base 35).at ⟨#[.pointer (some ⟨g, 0, none⟩), .int .i64 x, .bool true, undef, undef, undef, undef, undef, undef, undef, undef, undef, undef, undef, undef, undef, undef, undef, undef, undef, undef, undef, undef, undef], []⟩ [.code (Try.f35.body.getD .skip)] := by
    simp [Frame.enter, Frame.at, Try.func35, base, Try.f35]
  rw [e]
  refine LoneTo.goes (n := 43) ?_
  simp only [Try.f35, Option.getD_some]
  s_c stepG_seq
  s_reg
  s_op
  s_c stepG_region_end
  s_c stepG_seq
  s_c stepG_seq
  s_reg
  s_op
  s_op
  s_c stepG_region_end
  s_cond false
  s_c stepG_skip
  s_c stepG_seq
  s_reg
  s_op
  s_op
  s_op
  s_op
  s_op
  s_c stepG_region_end
  s_c stepG_seq
  s_c stepG_seq
  s_reg
  s_op
  s_c stepG_region_end
  s_cond true
  s_reg
  s_op
  s_op
  s_op
  s_op
  s_op
  s_c stepG_region_end
  s_c stepG_seq
  s_c stepG_seq
  s_reg
  s_op
  s_c stepG_region_end
  s_reg
  s_op
  s_c stepG_region_end
  s_c stepG_seq
  s_reg
  s_stop
  refine LoneTo.step (step_lone_sel_default (stepG_comm (cases := #[scase cu (.int .i64 x) (.int .i64 0)]) (blocking := false) (shape := .select) (w' := w) rfl rfl (by decide) (by simp [go_sem, execOp, rcase, scase, Act.eval])) (fun cc hcc => ?_)) ?_
  · simp only [List.mem_toArray, List.mem_cons, List.not_mem_nil, or_false] at hcc
    subst hcc
    exact noWay_send hB (by simp)
  rw [Frame.finish_at, res_sd]
  walk_nrm
  refine LoneTo.goes (n := 10) ?_
  s_op
  s_op
  s_c stepG_region_end
  s_c stepG_block
  s_cond false
  s_c stepG_seq
  s_reg
  s_op
  s_c stepG_region_end
  s_c stepG_ret'
  s_stop
  exact LoneTo.done ⟨.returned (.bool false), _, rfl, ⟨rfl, rfl⟩, rfl, rfl, rfl, rfl, _, Try.func35, by simp [results, Try.f35, Frame.at]⟩
set_option maxRecDepth 100000 in
theorem take_urgent (g cu cp s r : Nat) (x : Int) (w : World) (h : M2 w g cu cp) (hB : Box w cu #[.int .i64 x] s r) : Calls Try.prog 33 #[.pointer (some ⟨g, 0, none⟩)] w fun e w' => e = .returned (.tuple #[.int .i64 x, .bool true, .bool true]) ∧ w' = w.setChan cu 1 #[] false s (r + 1) false := by
  obtain ⟨c0, c1⟩ := h.facts
  refine calls_of_loneTo fun cs => ?_
  have e : Frame.enter Try.prog 33 #[.pointer (some ⟨g, 0, none⟩)] .normal = (base 33).at ⟨#[.pointer (some ⟨g, 0, none⟩), undef, undef, undef, undef, undef, undef, undef, undef, undef, undef, undef, undef, undef, undef, undef, undef, undef, undef, undef, undef, undef, undef, undef, undef, undef, undef, undef, undef, undef], []⟩ [.code (Try.f33.body.getD .skip)] := by
    simp [Frame.enter, Frame.at, Try.func33, base, Try.f33]
  rw [e]
  refine LoneTo.goes (n := 28) ?_
  simp only [Try.f33, Option.getD_some]
  s_c stepG_seq
  s_reg
  s_op
  s_op
  s_op
  s_c stepG_region_end
  s_c stepG_seq
  s_reg
  s_op
  s_c stepG_region_end
  s_c stepG_seq
  s_c stepG_seq
  s_reg
  s_op
  s_op
  s_c stepG_region_end
  s_cond false
  s_c stepG_skip
  s_c stepG_seq
  s_c stepG_seq
  s_reg
  s_op
  s_op
  s_op
  s_op
  s_c stepG_region_end
  s_c stepG_seq
  s_reg
  s_stop
  refine LoneTo.step (step_lone_sel_recv_buf (k := 0) (c := cu) (z := .int .i64 0) (cap := 1) (buf := #[.int .i64 x]) (closed := false) (s := s) (r := r) (tm := false) (stepG_comm (cases := #[rcase cu (.int .i64 0)]) (blocking := false) (shape := .select) (w' := w) rfl rfl (by decide) (by simp [go_sem, execOp, rcase, scase, Act.eval])) rfl (fun m c' hm hc' => ?_) hB (by simp)) ?_
  · rcases m with _ | m
    · exact absurd rfl hm
    · simp at hc'
  rw [Frame.finish_at, res_r]
  walk_nrm
  refine LoneTo.goes (n := 18) ?_
  s_op
  s_op
  s_c stepG_region_end
  s_c stepG_block
  s_cond true
  s_c stepG_seq
  s_reg
  s_op
  s_op
  s_c stepG_region_end
  s_c stepG_seq
  s_reg
  s_op
  s_op
  s_op
  s_op
  s_c stepG_region_end
  s_c stepG_ret'
  s_stop
  exact LoneTo.done ⟨.returned (.tuple #[.int .i64 x, .bool true, .bool true]), _, rfl, ⟨rfl, rfl⟩, rfl, rfl, rfl, rfl, _, Try.func33, by simp [results, Try.f33, Frame.at]⟩
end Go.Proofs.Ytdgdmlchegjejaa.MailA
