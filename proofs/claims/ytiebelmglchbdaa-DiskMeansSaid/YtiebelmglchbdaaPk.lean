/- Layer 14's laws: the chapter's rows. -/
import Derived.Test.YtiebelmglchbdaaPi
namespace Go.Proofs.Ytiebelmglchbdaa
set_option linter.unusedVariables false
set_option linter.unusedSimpArgs false
set_option maxRecDepth 100000
open Go Go.RowKit

theorem bs_int (x : Int) (W : World) : (Instr.buildSlice 33 1 [(0, .int .i64 x)].toArray).run Try.prog W = .ok (.slice (some ⟨W.heap.size, 0, none⟩) 1 1) (W.alloc (.cells #[.int .i64 x] 3)) := by kernel_rfl
theorem PK.one {w0 : World} {hh : Hep} {g : Nat} {x : Int} (hm : (g, .ty 3, #[.int .i64 x]) ∈ hh) (hx : -9223372036854775808 ≤ x ∧ x < 9223372036854775808) : PK w0 hh (some ⟨g, 0, none⟩) 1 [x] := ⟨rfl, fun y hy => by rw [List.mem_singleton.1 hy]; exact hx, ⟨g, 0, fun _ => ⟨rfl, fun W _ hW i y hy => by
  have hB : Blk W g (.ty 3) #[.int .i64 x] := hW _ hm
  rw [hB.cell]
  cases i with
  | zero => injection hy with hy; rw [← hy]; rfl
  | succ i => simp at hy⟩⟩⟩
theorem kd_5 (l : List Int) : 0 < (dCrash kd3 l).B.length := by
  have e : (dCrash kd3 l).B.length = 2 := crash_len l _ _ _
  rw [e]
  decide
theorem want_tk {k : Nat} : rb 512 (tkF (fun _ => 9) (fun _ => 7) (2 * k)) = wantK k := rfl
attribute [local irreducible] bvs dwa entsI zeroB lastsB stepP lastN xorB rb
set_option maxHeartbeats 4000000 in
theorem known_any (w : World) : Calls Try.prog 11 #[] w (fun rr w' => rr = .returned (.bool true) ∧ Below w.heap.size w w') := by
  refine calls_st (vs := []) 71 Try.func11 rfl Try.ntmps11 rfl (fun a W H => ?_)
  replace H : St 71 w a W [] (([] : Hep)) := H
  refine sqR H gs0 fun Z_ z_ => rS 1 rfl <| rN0 z_ ?_
  try clear H a W
  intro a W H
  refine wp_seq_k (fun K2 hK2 => ?_)
  refine sqR H gs0 fun Z_ z_ => rS 1 rfl <| rN0 z_ ?_
  try clear H a W
  intro a W H
  refine wp_block ?_
  replace H : St 71 w a W [(1, .int .i64 ((0 : Nat) : Int)), (0, .bool false)] (([] : Hep)) := H.pickF (h := []) (t := ([] : Hep)) [0, 1] [] rfl
  refine wp_rounds 2 (fun k a W => St 71 w a W [(1, .int .i64 ((k : Nat) : Int)), (0, .bool false)] (([] : Hep))) (k0 := 0) H (by omega) ?_
  try clear H a W
  intro k a W hk H
  by_cases hk2 : k < 2
  · refine wp_seq_k (fun K4 hK4 => ?_)
    refine sqR H gs0 fun Z_ z_ => rS 1 rfl <| rV rfl (does_binOp rfl rfl rfl (zd_lss_int (k := ((k : Nat) : Int)) (m := 2) (decide_eq_true (by omega)) _ _)) <| rN0 z_ ?_
    try clear H a W
    intro a W H
    refine wp_cond_true (H.ev rfl) ?_
    refine wp_skip ?_
    refine hK4 _ _ ?_
    clear hK4
    refine wp_seq_k (fun K6 hK6 => ?_)
    refine wp_block ?_
    refine wp_seq_k (fun K7 hK7 => ?_)
    refine rg_plain ?_
    replace H : St 71 w a W [(9, .bool true), (8, .int .i64 ((k : Nat) : Int)), (1, .int .i64 ((k : Nat) : Int)), (0, .bool false)] (([] : Hep) ++ ([] : Hep)) := H
    refine pl_callX rfl rfl ⟨_, Try.func12, by kernel_rfl⟩ rfl (fun K_ => po_new (hh := (([] : Hep) ++ ([] : Hep))) 2 (by omega) w _ K_) H ?_
    try clear H a W
    rintro ⟨p1, r1⟩ a W hP1 H
    replace hP1 : PO p1 kd0 r1 := hP1
    replace H := H.perm' (List.perm_append_comm_assoc r1 ([] : Hep) ([] : Hep))
    replace H : St 71 w a W [(13, .tuple #[.pointer (some ⟨p1, 0, none⟩), .int .i64 0]), (9, .bool true), (8, .int .i64 ((k : Nat) : Int)), (1, .int .i64 ((k : Nat) : Int)), (0, .bool false)] ((r1 ++ ([] : Hep))) := H
    refine rgO H gs0 (rS 5 rfl <| rZ0 ?_)
    try clear H a W
    intro a W H
    refine hK7 _ _ ?_
    clear hK7
    refine wp_seq_k (fun K8 hK8 => ?_)
    refine wp_seq_k (fun K9 hK9 => ?_)
    refine rgP H gs0 (rS 1 rfl <| rV rfl (does_binOp rfl rfl rfl (fun W => ptr_nil W)) <| rS 2 rfl <| rV rfl (does_call rfl ⟨_, Try.func13, by kernel_rfl⟩ rfl (fun W hb => num_any _ W)) <| rV rfl (does_binOp rfl rfl rfl (zd_neq_int (k := 0) (m := 0) (decide_eq_false (by omega)) _ _)) <| rS 3 rfl <| rI0 ?_)
    try clear H a W
    intro a W H
    refine pl_callX rfl rfl ⟨_, Try.func29, by kernel_rfl⟩ rfl (fun K_ => fill_K 7 K_) H ?_
    try clear H a W
    rintro g1 a W - H
    replace H : St 71 w a W [(25, .slice (some ⟨g1, 0, none⟩) 512 512), (24, .pointer (some ⟨p1, 0, none⟩)), (23, .bool false), (22, .bool false), (21, .bool false), (20, .int .i64 0), (19, .int .i64 0), (18, .bool false), (17, .bool false), (16, .pointer (some ⟨p1, 0, none⟩)), (3, .int .i64 0), (2, .pointer (some ⟨p1, 0, none⟩)), (15, .int .i64 0), (14, .pointer (some ⟨p1, 0, none⟩)), (12, .tuple #[.pointer (some ⟨p1, 0, none⟩), .int .i64 0]), (13, .tuple #[.pointer (some ⟨p1, 0, none⟩), .int .i64 0]), (9, .bool true), (8, .int .i64 ((k : Nat) : Int)), (1, .int .i64 ((k : Nat) : Int)), (0, .bool false)] ((g1, 5, bvs (fillB 7)) :: (r1 ++ ([] : Hep))) := H
    replace H : St 71 w a W [(25, .slice (some ⟨g1, 0, none⟩) 512 512), (24, .pointer (some ⟨p1, 0, none⟩)), (23, .bool false), (22, .bool false), (21, .bool false), (20, .int .i64 0), (19, .int .i64 0), (18, .bool false), (17, .bool false), (16, .pointer (some ⟨p1, 0, none⟩)), (3, .int .i64 0), (2, .pointer (some ⟨p1, 0, none⟩)), (15, .int .i64 0), (14, .pointer (some ⟨p1, 0, none⟩)), (12, .tuple #[.pointer (some ⟨p1, 0, none⟩), .int .i64 0]), (13, .tuple #[.pointer (some ⟨p1, 0, none⟩), .int .i64 0]), (9, .bool true), (8, .int .i64 ((k : Nat) : Int)), (1, .int .i64 ((k : Nat) : Int)), (0, .bool false)] (r1 ++ (([(g1, .ty 5, bvs (fillB 7))] : Hep) ++ ([] : Hep))) := H.perm' (((List.Perm.refl _).append_left ([(g1, .ty 5, bvs (fillB 7))] : Hep)).trans (List.perm_append_comm_assoc ([(g1, .ty 5, bvs (fillB 7))] : Hep) r1 ([] : Hep)))
    refine pl_callX rfl rfl ⟨_, Try.func28, by kernel_rfl⟩ rfl (fun K_ => by have h_ := po_write (hh := (([(g1, .ty 5, bvs (fillB 7))] : Hep) ++ ([] : Hep))) (b := fillB 7) (gb := g1) (cb := 512) hP1 0 (by rw [fill_len _]; omega) (List.mem_append_left _ (List.mem_iff_getElem?.2 ⟨0, rfl⟩)) (by decide) w _ K_; rw [show (fillB 7).length = 512 from (fill_len _)] at h_; rw [kd_1] at h_; exact h_) H ?_
    try clear H a W
    rintro r2 a W hP2 H
    replace hP2 : PO p1 kd1 r2 := hP2
    replace H := H.perm' (List.perm_append_comm_assoc r2 ([(g1, .ty 5, bvs (fillB 7))] : Hep) ([] : Hep))
    replace H : St 71 w a W [(26, .int .i64 0), (25, .slice (some ⟨g1, 0, none⟩) 512 512), (24, .pointer (some ⟨p1, 0, none⟩)), (23, .bool false), (22, .bool false), (21, .bool false), (20, .int .i64 0), (19, .int .i64 0), (18, .bool false), (17, .bool false), (16, .pointer (some ⟨p1, 0, none⟩)), (3, .int .i64 0), (2, .pointer (some ⟨p1, 0, none⟩)), (15, .int .i64 0), (14, .pointer (some ⟨p1, 0, none⟩)), (12, .tuple #[.pointer (some ⟨p1, 0, none⟩), .int .i64 0]), (13, .tuple #[.pointer (some ⟨p1, 0, none⟩), .int .i64 0]), (9, .bool true), (8, .int .i64 ((k : Nat) : Int)), (1, .int .i64 ((k : Nat) : Int)), (0, .bool false)] ((g1, 5, bvs (fillB 7)) :: (r2 ++ ([] : Hep))) := H
    refine rgO H gs0 (rV rfl (does_call rfl ⟨_, Try.func13, by kernel_rfl⟩ rfl (fun W hb => num_any _ W)) <| rS 1 rfl <| rI0 ?_)
    try clear H a W
    intro a W H
    replace H : St 71 w a W [(28, .pointer (some ⟨p1, 0, none⟩)), (27, .int .i64 0), (26, .int .i64 0), (25, .slice (some ⟨g1, 0, none⟩) 512 512), (24, .pointer (some ⟨p1, 0, none⟩)), (23, .bool false), (22, .bool false), (21, .bool false), (20, .int .i64 0), (19, .int .i64 0), (18, .bool false), (17, .bool false), (16, .pointer (some ⟨p1, 0, none⟩)), (3, .int .i64 0), (2, .pointer (some ⟨p1, 0, none⟩)), (15, .int .i64 0), (14, .pointer (some ⟨p1, 0, none⟩)), (12, .tuple #[.pointer (some ⟨p1, 0, none⟩), .int .i64 0]), (13, .tuple #[.pointer (some ⟨p1, 0, none⟩), .int .i64 0]), (9, .bool true), (8, .int .i64 ((k : Nat) : Int)), (1, .int .i64 ((k : Nat) : Int)), (0, .bool false)] (r2 ++ (([(g1, .ty 5, bvs (fillB 7))] : Hep) ++ ([] : Hep))) := H.perm' (((List.Perm.refl _).append_left ([(g1, .ty 5, bvs (fillB 7))] : Hep)).trans (List.perm_append_comm_assoc ([(g1, .ty 5, bvs (fillB 7))] : Hep) r2 ([] : Hep)))
    refine pl_callX rfl rfl ⟨_, Try.func27, by kernel_rfl⟩ rfl (fun K_ => by have h_ := po_sync (hh := (([(g1, .ty 5, bvs (fillB 7))] : Hep) ++ ([] : Hep))) hP2 w _ K_; rw [kd_2] at h_; exact h_) H ?_
    try clear H a W
    rintro r3 a W hP3 H
    replace hP3 : PO p1 kd2 r3 := hP3
    replace H := H.perm' (List.perm_append_comm_assoc r3 ([(g1, .ty 5, bvs (fillB 7))] : Hep) ([] : Hep))
    replace H : St 71 w a W [(29, .int .i64 0), (28, .pointer (some ⟨p1, 0, none⟩)), (27, .int .i64 0), (26, .int .i64 0), (25, .slice (some ⟨g1, 0, none⟩) 512 512), (24, .pointer (some ⟨p1, 0, none⟩)), (23, .bool false), (22, .bool false), (21, .bool false), (20, .int .i64 0), (19, .int .i64 0), (18, .bool false), (17, .bool false), (16, .pointer (some ⟨p1, 0, none⟩)), (3, .int .i64 0), (2, .pointer (some ⟨p1, 0, none⟩)), (15, .int .i64 0), (14, .pointer (some ⟨p1, 0, none⟩)), (12, .tuple #[.pointer (some ⟨p1, 0, none⟩), .int .i64 0]), (13, .tuple #[.pointer (some ⟨p1, 0, none⟩), .int .i64 0]), (9, .bool true), (8, .int .i64 ((k : Nat) : Int)), (1, .int .i64 ((k : Nat) : Int)), (0, .bool false)] ((g1, 5, bvs (fillB 7)) :: (r3 ++ ([] : Hep))) := H
    refine rgO H gs0 (rV rfl (does_call rfl ⟨_, Try.func13, by kernel_rfl⟩ rfl (fun W hb => num_any _ W)) <| rV rfl (does_binOp rfl rfl rfl (zd_add_int (k := 0) (m := 0) (c := 0 + 0) rfl (by omega) _ _)) <| rS 1 rfl <| rI0 ?_)
    try clear H a W
    intro a W H
    refine pl_callX rfl rfl ⟨_, Try.func29, by kernel_rfl⟩ rfl (fun K_ => fill_K 9 K_) H ?_
    try clear H a W
    rintro g2 a W - H
    replace H : St 71 w a W [(33, .slice (some ⟨g2, 0, none⟩) 512 512), (32, .pointer (some ⟨p1, 0, none⟩)), (31, .int .i64 (0 + 0)), (30, .int .i64 0), (29, .int .i64 0), (28, .pointer (some ⟨p1, 0, none⟩)), (27, .int .i64 0), (26, .int .i64 0), (25, .slice (some ⟨g1, 0, none⟩) 512 512), (24, .pointer (some ⟨p1, 0, none⟩)), (23, .bool false), (22, .bool false), (21, .bool false), (20, .int .i64 0), (19, .int .i64 0), (18, .bool false), (17, .bool false), (16, .pointer (some ⟨p1, 0, none⟩)), (3, .int .i64 0), (2, .pointer (some ⟨p1, 0, none⟩)), (15, .int .i64 0), (14, .pointer (some ⟨p1, 0, none⟩)), (12, .tuple #[.pointer (some ⟨p1, 0, none⟩), .int .i64 0]), (13, .tuple #[.pointer (some ⟨p1, 0, none⟩), .int .i64 0]), (9, .bool true), (8, .int .i64 ((k : Nat) : Int)), (1, .int .i64 ((k : Nat) : Int)), (0, .bool false)] ((g2, 5, bvs (fillB 9)) :: (g1, 5, bvs (fillB 7)) :: (r3 ++ ([] : Hep))) := H
    replace H : St 71 w a W [(33, .slice (some ⟨g2, 0, none⟩) 512 512), (32, .pointer (some ⟨p1, 0, none⟩)), (31, .int .i64 (0 + 0)), (30, .int .i64 0), (29, .int .i64 0), (28, .pointer (some ⟨p1, 0, none⟩)), (27, .int .i64 0), (26, .int .i64 0), (25, .slice (some ⟨g1, 0, none⟩) 512 512), (24, .pointer (some ⟨p1, 0, none⟩)), (23, .bool false), (22, .bool false), (21, .bool false), (20, .int .i64 0), (19, .int .i64 0), (18, .bool false), (17, .bool false), (16, .pointer (some ⟨p1, 0, none⟩)), (3, .int .i64 0), (2, .pointer (some ⟨p1, 0, none⟩)), (15, .int .i64 0), (14, .pointer (some ⟨p1, 0, none⟩)), (12, .tuple #[.pointer (some ⟨p1, 0, none⟩), .int .i64 0]), (13, .tuple #[.pointer (some ⟨p1, 0, none⟩), .int .i64 0]), (9, .bool true), (8, .int .i64 ((k : Nat) : Int)), (1, .int .i64 ((k : Nat) : Int)), (0, .bool false)] (r3 ++ (([(g2, .ty 5, bvs (fillB 9)), (g1, .ty 5, bvs (fillB 7))] : Hep) ++ ([] : Hep))) := H.perm' (((List.Perm.refl _).append_left ([(g2, .ty 5, bvs (fillB 9)), (g1, .ty 5, bvs (fillB 7))] : Hep)).trans (List.perm_append_comm_assoc ([(g2, .ty 5, bvs (fillB 9)), (g1, .ty 5, bvs (fillB 7))] : Hep) r3 ([] : Hep)))
    refine pl_callX rfl rfl ⟨_, Try.func28, by kernel_rfl⟩ rfl (fun K_ => by have h_ := po_write (hh := (([(g2, .ty 5, bvs (fillB 9)), (g1, .ty 5, bvs (fillB 7))] : Hep) ++ ([] : Hep))) (b := fillB 9) (gb := g2) (cb := 512) hP3 0 (by rw [fill_len _]; omega) (List.mem_append_left _ (List.mem_iff_getElem?.2 ⟨0, rfl⟩)) (by decide) w _ K_; rw [show (fillB 9).length = 512 from (fill_len _)] at h_; rw [kd_3] at h_; exact h_) H ?_
    try clear H a W
    rintro r4 a W hP4 H
    replace hP4 : PO p1 kd3 r4 := hP4
    replace H := H.perm' (List.perm_append_comm_assoc r4 ([(g2, .ty 5, bvs (fillB 9)), (g1, .ty 5, bvs (fillB 7))] : Hep) ([] : Hep))
    replace H : St 71 w a W [(34, .int .i64 0), (33, .slice (some ⟨g2, 0, none⟩) 512 512), (32, .pointer (some ⟨p1, 0, none⟩)), (31, .int .i64 (0 + 0)), (30, .int .i64 0), (29, .int .i64 0), (28, .pointer (some ⟨p1, 0, none⟩)), (27, .int .i64 0), (26, .int .i64 0), (25, .slice (some ⟨g1, 0, none⟩) 512 512), (24, .pointer (some ⟨p1, 0, none⟩)), (23, .bool false), (22, .bool false), (21, .bool false), (20, .int .i64 0), (19, .int .i64 0), (18, .bool false), (17, .bool false), (16, .pointer (some ⟨p1, 0, none⟩)), (3, .int .i64 0), (2, .pointer (some ⟨p1, 0, none⟩)), (15, .int .i64 0), (14, .pointer (some ⟨p1, 0, none⟩)), (12, .tuple #[.pointer (some ⟨p1, 0, none⟩), .int .i64 0]), (13, .tuple #[.pointer (some ⟨p1, 0, none⟩), .int .i64 0]), (9, .bool true), (8, .int .i64 ((k : Nat) : Int)), (1, .int .i64 ((k : Nat) : Int)), (0, .bool false)] ((g2, 5, bvs (fillB 9)) :: (g1, 5, bvs (fillB 7)) :: (r4 ++ ([] : Hep))) := H
    refine rgO H gs0 (rV rfl (does_call rfl ⟨_, Try.func13, by kernel_rfl⟩ rfl (fun W hb => num_any _ W)) <| rV rfl (does_binOp rfl rfl rfl (zd_add_int (k := (0 + 0)) (m := 0) (c := (0 + 0) + 0) rfl (by omega) _ _)) <| rS 2 rfl <| rV rfl (does_binOp rfl rfl rfl (i_mulP (k := 8) (m := k) rfl (by omega) _ _)) <| rM (F := fun g => .slice (some ⟨g, 0, none⟩) 1 1) (t := 3) (z := #[.int .i64 ((8 * k : Nat) : Int)]) rfl (made_evP (F := fun g => .slice (some ⟨g, 0, none⟩) 1 1) (vs := [(0, .int .i64 ((8 * k : Nat) : Int))]) rfl (by kernel_rfl) (bs_int _)) fun g3 => rI0 ?_)
    try clear H a W
    intro a W H
    replace H : St 71 w a W [(40, .slice (some ⟨g3, 0, none⟩) 1 1), (39, .int .i64 ((8 * k : Nat) : Int)), (38, .int .i64 ((k : Nat) : Int)), (37, .pointer (some ⟨p1, 0, none⟩)), (36, .int .i64 ((0 + 0) + 0)), (35, .int .i64 0), (34, .int .i64 0), (33, .slice (some ⟨g2, 0, none⟩) 512 512), (32, .pointer (some ⟨p1, 0, none⟩)), (31, .int .i64 (0 + 0)), (30, .int .i64 0), (29, .int .i64 0), (28, .pointer (some ⟨p1, 0, none⟩)), (27, .int .i64 0), (26, .int .i64 0), (25, .slice (some ⟨g1, 0, none⟩) 512 512), (24, .pointer (some ⟨p1, 0, none⟩)), (23, .bool false), (22, .bool false), (21, .bool false), (20, .int .i64 0), (19, .int .i64 0), (18, .bool false), (17, .bool false), (16, .pointer (some ⟨p1, 0, none⟩)), (3, .int .i64 0), (2, .pointer (some ⟨p1, 0, none⟩)), (15, .int .i64 0), (14, .pointer (some ⟨p1, 0, none⟩)), (12, .tuple #[.pointer (some ⟨p1, 0, none⟩), .int .i64 0]), (13, .tuple #[.pointer (some ⟨p1, 0, none⟩), .int .i64 0]), (9, .bool true), (8, .int .i64 ((k : Nat) : Int)), (1, .int .i64 ((k : Nat) : Int)), (0, .bool false)] (r4 ++ (([(g3, .ty 3, #[.int .i64 ((8 * k : Nat) : Int)]), (g2, .ty 5, bvs (fillB 9)), (g1, .ty 5, bvs (fillB 7))] : Hep) ++ ([] : Hep))) := H.perm' (((List.Perm.refl _).append_left ([(g3, .ty 3, #[.int .i64 ((8 * k : Nat) : Int)]), (g2, .ty 5, bvs (fillB 9)), (g1, .ty 5, bvs (fillB 7))] : Hep)).trans (List.perm_append_comm_assoc ([(g3, .ty 3, #[.int .i64 ((8 * k : Nat) : Int)]), (g2, .ty 5, bvs (fillB 9)), (g1, .ty 5, bvs (fillB 7))] : Hep) r4 ([] : Hep)))
    refine pl_callX rfl rfl ⟨_, Try.func23, by kernel_rfl⟩ rfl (fun K_ => po_crash (hh := (([(g3, .ty 3, #[.int .i64 ((8 * k : Nat) : Int)]), (g2, .ty 5, bvs (fillB 9)), (g1, .ty 5, bvs (fillB 7))] : Hep) ++ ([] : Hep))) w hP4 (PK.one (List.mem_append_left _ (List.mem_iff_getElem?.2 ⟨0, rfl⟩)) (by omega)) (by omega) _ K_) H ?_
    try clear H a W
    rintro r5 a W hP5 H
    replace hP5 : PO p1 (dCrash kd3 [((8 * k : Nat) : Int)]) r5 := hP5
    replace H := H.perm' (List.perm_append_comm_assoc r5 ([(g3, .ty 3, #[.int .i64 ((8 * k : Nat) : Int)]), (g2, .ty 5, bvs (fillB 9)), (g1, .ty 5, bvs (fillB 7))] : Hep) ([] : Hep))
    replace H : St 71 w a W [(41, .int .i64 0), (40, .slice (some ⟨g3, 0, none⟩) 1 1), (39, .int .i64 ((8 * k : Nat) : Int)), (38, .int .i64 ((k : Nat) : Int)), (37, .pointer (some ⟨p1, 0, none⟩)), (36, .int .i64 ((0 + 0) + 0)), (35, .int .i64 0), (34, .int .i64 0), (33, .slice (some ⟨g2, 0, none⟩) 512 512), (32, .pointer (some ⟨p1, 0, none⟩)), (31, .int .i64 (0 + 0)), (30, .int .i64 0), (29, .int .i64 0), (28, .pointer (some ⟨p1, 0, none⟩)), (27, .int .i64 0), (26, .int .i64 0), (25, .slice (some ⟨g1, 0, none⟩) 512 512), (24, .pointer (some ⟨p1, 0, none⟩)), (23, .bool false), (22, .bool false), (21, .bool false), (20, .int .i64 0), (19, .int .i64 0), (18, .bool false), (17, .bool false), (16, .pointer (some ⟨p1, 0, none⟩)), (3, .int .i64 0), (2, .pointer (some ⟨p1, 0, none⟩)), (15, .int .i64 0), (14, .pointer (some ⟨p1, 0, none⟩)), (12, .tuple #[.pointer (some ⟨p1, 0, none⟩), .int .i64 0]), (13, .tuple #[.pointer (some ⟨p1, 0, none⟩), .int .i64 0]), (9, .bool true), (8, .int .i64 ((k : Nat) : Int)), (1, .int .i64 ((k : Nat) : Int)), (0, .bool false)] ((g3, 3, #[.int .i64 ((8 * k : Nat) : Int)]) :: (g2, 5, bvs (fillB 9)) :: (g1, 5, bvs (fillB 7)) :: (r5 ++ ([] : Hep))) := H
    refine rgO H gs0 (rV rfl (does_call rfl ⟨_, Try.func13, by kernel_rfl⟩ rfl (fun W hb => num_any _ W)) <| rV rfl (does_binOp rfl rfl rfl (zd_add_int (k := ((0 + 0) + 0)) (m := 0) (c := ((0 + 0) + 0) + 0) rfl (by omega) _ _)) <| rV rfl (does_binOp rfl rfl rfl (zd_neq_int (k := (((0 + 0) + 0) + 0)) (m := 0) (decide_eq_false (by omega)) _ _)) <| rS 1 rfl <| rZ0 ?_)
    try clear H a W
    intro a W H
    refine hK9 _ _ ?_
    clear hK9
    refine wp_cond_false (H.ev rfl) ?_
    refine wp_skip ?_
    refine hK8 _ _ ?_
    clear hK8
    refine wp_seq_k (fun K10 hK10 => ?_)
    refine rgP H gs0 (rS 1 rfl <| rI0 ?_)
    try clear H a W
    intro a W H
    replace H : St 71 w a W [(47, .pointer (some ⟨p1, 0, none⟩)), (45, .bool false), (44, .bool false), (43, .int .i64 (((0 + 0) + 0) + 0)), (42, .int .i64 0), (41, .int .i64 0), (40, .slice (some ⟨g3, 0, none⟩) 1 1), (39, .int .i64 ((8 * k : Nat) : Int)), (38, .int .i64 ((k : Nat) : Int)), (37, .pointer (some ⟨p1, 0, none⟩)), (36, .int .i64 ((0 + 0) + 0)), (35, .int .i64 0), (34, .int .i64 0), (33, .slice (some ⟨g2, 0, none⟩) 512 512), (32, .pointer (some ⟨p1, 0, none⟩)), (31, .int .i64 (0 + 0)), (30, .int .i64 0), (29, .int .i64 0), (28, .pointer (some ⟨p1, 0, none⟩)), (27, .int .i64 0), (26, .int .i64 0), (25, .slice (some ⟨g1, 0, none⟩) 512 512), (24, .pointer (some ⟨p1, 0, none⟩)), (23, .bool false), (22, .bool false), (21, .bool false), (20, .int .i64 0), (19, .int .i64 0), (18, .bool false), (17, .bool false), (16, .pointer (some ⟨p1, 0, none⟩)), (3, .int .i64 0), (2, .pointer (some ⟨p1, 0, none⟩)), (15, .int .i64 0), (14, .pointer (some ⟨p1, 0, none⟩)), (12, .tuple #[.pointer (some ⟨p1, 0, none⟩), .int .i64 0]), (13, .tuple #[.pointer (some ⟨p1, 0, none⟩), .int .i64 0]), (9, .bool true), (8, .int .i64 ((k : Nat) : Int)), (1, .int .i64 ((k : Nat) : Int)), (0, .bool false)] (r5 ++ (([(g3, .ty 3, #[.int .i64 ((8 * k : Nat) : Int)]), (g2, .ty 5, bvs (fillB 9)), (g1, .ty 5, bvs (fillB 7))] : Hep) ++ ([] : Hep))) := H.perm' (((List.Perm.refl _).append_left ([(g3, .ty 3, #[.int .i64 ((8 * k : Nat) : Int)]), (g2, .ty 5, bvs (fillB 9)), (g1, .ty 5, bvs (fillB 7))] : Hep)).trans (List.perm_append_comm_assoc ([(g3, .ty 3, #[.int .i64 ((8 * k : Nat) : Int)]), (g2, .ty 5, bvs (fillB 9)), (g1, .ty 5, bvs (fillB 7))] : Hep) r5 ([] : Hep)))
    refine pl_callX rfl rfl ⟨_, Try.func18, by kernel_rfl⟩ rfl (fun K_ => by have h_ := po_read (hh := (([(g3, .ty 3, #[.int .i64 ((8 * k : Nat) : Int)]), (g2, .ty 5, bvs (fillB 9)), (g1, .ty 5, bvs (fillB 7))] : Hep) ++ ([] : Hep))) hP5 0 (kd_5 _) w _ K_; rw [kd_4 (by omega)] at h_; exact h_) H ?_
    try clear H a W
    rintro gr6 a W - H
    replace H := H.perm' ((List.perm_append_comm_assoc r5 ([(g3, .ty 3, #[.int .i64 ((8 * k : Nat) : Int)]), (g2, .ty 5, bvs (fillB 9)), (g1, .ty 5, bvs (fillB 7))] : Hep) ([] : Hep)).append_left ([(gr6, .ty 77, bvs (wantK k))] : Hep))
    replace H : St 71 w a W [(48, .tuple #[.slice (some ⟨gr6, 0, none⟩) 512 512, .int .i64 0]), (47, .pointer (some ⟨p1, 0, none⟩)), (45, .bool false), (44, .bool false), (43, .int .i64 (((0 + 0) + 0) + 0)), (42, .int .i64 0), (41, .int .i64 0), (40, .slice (some ⟨g3, 0, none⟩) 1 1), (39, .int .i64 ((8 * k : Nat) : Int)), (38, .int .i64 ((k : Nat) : Int)), (37, .pointer (some ⟨p1, 0, none⟩)), (36, .int .i64 ((0 + 0) + 0)), (35, .int .i64 0), (34, .int .i64 0), (33, .slice (some ⟨g2, 0, none⟩) 512 512), (32, .pointer (some ⟨p1, 0, none⟩)), (31, .int .i64 (0 + 0)), (30, .int .i64 0), (29, .int .i64 0), (28, .pointer (some ⟨p1, 0, none⟩)), (27, .int .i64 0), (26, .int .i64 0), (25, .slice (some ⟨g1, 0, none⟩) 512 512), (24, .pointer (some ⟨p1, 0, none⟩)), (23, .bool false), (22, .bool false), (21, .bool false), (20, .int .i64 0), (19, .int .i64 0), (18, .bool false), (17, .bool false), (16, .pointer (some ⟨p1, 0, none⟩)), (3, .int .i64 0), (2, .pointer (some ⟨p1, 0, none⟩)), (15, .int .i64 0), (14, .pointer (some ⟨p1, 0, none⟩)), (12, .tuple #[.pointer (some ⟨p1, 0, none⟩), .int .i64 0]), (13, .tuple #[.pointer (some ⟨p1, 0, none⟩), .int .i64 0]), (9, .bool true), (8, .int .i64 ((k : Nat) : Int)), (1, .int .i64 ((k : Nat) : Int)), (0, .bool false)] ((gr6, 77, bvs (wantK k)) :: (g3, 3, #[.int .i64 ((8 * k : Nat) : Int)]) :: (g2, 5, bvs (fillB 9)) :: (g1, 5, bvs (fillB 7)) :: (r5 ++ ([] : Hep))) := H
    refine rgO H gs0 (rS 5 rfl <| rZ0 ?_)
    try clear H a W
    intro a W H
    refine hK10 _ _ ?_
    clear hK10
    refine wp_seq_k (fun K11 hK11 => ?_)
    refine rg_plain ?_
    refine pl_callX rfl rfl ⟨_, Try.func29, by kernel_rfl⟩ rfl (fun K_ => fill_K 7 K_) H ?_
    try clear H a W
    rintro g4 a W - H
    replace H : St 71 w a W [(51, .slice (some ⟨g4, 0, none⟩) 512 512), (5, .int .i64 0), (4, .slice (some ⟨gr6, 0, none⟩) 512 512), (50, .int .i64 0), (49, .slice (some ⟨gr6, 0, none⟩) 512 512), (46, .tuple #[.slice (some ⟨gr6, 0, none⟩) 512 512, .int .i64 0]), (48, .tuple #[.slice (some ⟨gr6, 0, none⟩) 512 512, .int .i64 0]), (47, .pointer (some ⟨p1, 0, none⟩)), (45, .bool false), (44, .bool false), (43, .int .i64 (((0 + 0) + 0) + 0)), (42, .int .i64 0), (41, .int .i64 0), (40, .slice (some ⟨g3, 0, none⟩) 1 1), (39, .int .i64 ((8 * k : Nat) : Int)), (38, .int .i64 ((k : Nat) : Int)), (37, .pointer (some ⟨p1, 0, none⟩)), (36, .int .i64 ((0 + 0) + 0)), (35, .int .i64 0), (34, .int .i64 0), (33, .slice (some ⟨g2, 0, none⟩) 512 512), (32, .pointer (some ⟨p1, 0, none⟩)), (31, .int .i64 (0 + 0)), (30, .int .i64 0), (29, .int .i64 0), (28, .pointer (some ⟨p1, 0, none⟩)), (27, .int .i64 0), (26, .int .i64 0), (25, .slice (some ⟨g1, 0, none⟩) 512 512), (24, .pointer (some ⟨p1, 0, none⟩)), (23, .bool false), (22, .bool false), (21, .bool false), (20, .int .i64 0), (19, .int .i64 0), (18, .bool false), (17, .bool false), (16, .pointer (some ⟨p1, 0, none⟩)), (3, .int .i64 0), (2, .pointer (some ⟨p1, 0, none⟩)), (15, .int .i64 0), (14, .pointer (some ⟨p1, 0, none⟩)), (12, .tuple #[.pointer (some ⟨p1, 0, none⟩), .int .i64 0]), (13, .tuple #[.pointer (some ⟨p1, 0, none⟩), .int .i64 0]), (9, .bool true), (8, .int .i64 ((k : Nat) : Int)), (1, .int .i64 ((k : Nat) : Int)), (0, .bool false)] ((g4, 5, bvs (fillB 7)) :: (gr6, 77, bvs (wantK k)) :: (g3, 3, #[.int .i64 ((8 * k : Nat) : Int)]) :: (g2, 5, bvs (fillB 9)) :: (g1, 5, bvs (fillB 7)) :: (r5 ++ ([] : Hep))) := H
    refine rgO H gs0 (rS 1 rfl <| rZ0 ?_)
    try clear H a W
    intro a W H
    refine hK11 _ _ ?_
    clear hK11
    refine wp_seq_k (fun K12 hK12 => ?_)
    refine sqR H gs0 fun Z_ z_ => rS 1 rfl <| rN0 z_ ?_
    try clear H a W
    intro a W H
    refine wp_block ?_
    rw [show fillB 7 = rb 512 (tkF (fun _ => 9) (fun _ => 7) 0) by rw [tk_0]; rfl] at H
    replace H : St 71 w a W [(7, .int .i64 ((0 : Nat) : Int)), (6, .slice (some ⟨g4, 0, none⟩) 512 512), (51, .slice (some ⟨g4, 0, none⟩) 512 512), (5, .int .i64 0), (4, .slice (some ⟨gr6, 0, none⟩) 512 512), (50, .int .i64 0), (49, .slice (some ⟨gr6, 0, none⟩) 512 512), (46, .tuple #[.slice (some ⟨gr6, 0, none⟩) 512 512, .int .i64 0]), (48, .tuple #[.slice (some ⟨gr6, 0, none⟩) 512 512, .int .i64 0]), (47, .pointer (some ⟨p1, 0, none⟩)), (45, .bool false), (44, .bool false), (43, .int .i64 (((0 + 0) + 0) + 0)), (42, .int .i64 0), (41, .int .i64 0), (40, .slice (some ⟨g3, 0, none⟩) 1 1), (39, .int .i64 ((8 * k : Nat) : Int)), (38, .int .i64 ((k : Nat) : Int)), (37, .pointer (some ⟨p1, 0, none⟩)), (36, .int .i64 ((0 + 0) + 0)), (35, .int .i64 0), (34, .int .i64 0), (33, .slice (some ⟨g2, 0, none⟩) 512 512), (32, .pointer (some ⟨p1, 0, none⟩)), (31, .int .i64 (0 + 0)), (30, .int .i64 0), (29, .int .i64 0), (28, .pointer (some ⟨p1, 0, none⟩)), (27, .int .i64 0), (26, .int .i64 0), (25, .slice (some ⟨g1, 0, none⟩) 512 512), (24, .pointer (some ⟨p1, 0, none⟩)), (23, .bool false), (22, .bool false), (21, .bool false), (20, .int .i64 0), (19, .int .i64 0), (18, .bool false), (17, .bool false), (16, .pointer (some ⟨p1, 0, none⟩)), (3, .int .i64 0), (2, .pointer (some ⟨p1, 0, none⟩)), (15, .int .i64 0), (14, .pointer (some ⟨p1, 0, none⟩)), (12, .tuple #[.pointer (some ⟨p1, 0, none⟩), .int .i64 0]), (13, .tuple #[.pointer (some ⟨p1, 0, none⟩), .int .i64 0]), (9, .bool true), (8, .int .i64 ((k : Nat) : Int)), (1, .int .i64 ((k : Nat) : Int)), (0, .bool false)] ((g4, 5, bvs (rb 512 (tkF (fun _ => 9) (fun _ => 7) 0))) :: (gr6, 77, bvs (wantK k)) :: (g3, 3, #[.int .i64 ((8 * k : Nat) : Int)]) :: (g2, 5, bvs (fillB 9)) :: (g1, 5, bvs (fillB 7)) :: (r5 ++ ([] : Hep))) := H.pickF (h := [(g4, 5, bvs (fillB 7)), (gr6, 77, bvs (wantK k)), (g3, 3, #[.int .i64 ((8 * k : Nat) : Int)]), (g2, 5, bvs (fillB 9)), (g1, 5, bvs (fillB 7))]) (t := (r5 ++ ([] : Hep))) [0, 1, 2, 3, 4, 5, 6, 7, 8, 9, 10, 11, 12, 13, 14, 15, 16, 17, 18, 19, 20, 21, 22, 23, 24, 25, 26, 27, 28, 29, 30, 31, 32, 33, 34, 35, 36, 37, 38, 39, 40, 41, 42, 43, 44, 45, 46, 47, 48, 49] [0, 1, 2, 3, 4] rfl
    refine wp_rounds (2 * k) (fun j a W => St 71 w a W [(7, .int .i64 ((j : Nat) : Int)), (6, .slice (some ⟨g4, 0, none⟩) 512 512), (51, .slice (some ⟨g4, 0, none⟩) 512 512), (5, .int .i64 0), (4, .slice (some ⟨gr6, 0, none⟩) 512 512), (50, .int .i64 0), (49, .slice (some ⟨gr6, 0, none⟩) 512 512), (46, .tuple #[.slice (some ⟨gr6, 0, none⟩) 512 512, .int .i64 0]), (48, .tuple #[.slice (some ⟨gr6, 0, none⟩) 512 512, .int .i64 0]), (47, .pointer (some ⟨p1, 0, none⟩)), (45, .bool false), (44, .bool false), (43, .int .i64 (((0 + 0) + 0) + 0)), (42, .int .i64 0), (41, .int .i64 0), (40, .slice (some ⟨g3, 0, none⟩) 1 1), (39, .int .i64 ((8 * k : Nat) : Int)), (38, .int .i64 ((k : Nat) : Int)), (37, .pointer (some ⟨p1, 0, none⟩)), (36, .int .i64 ((0 + 0) + 0)), (35, .int .i64 0), (34, .int .i64 0), (33, .slice (some ⟨g2, 0, none⟩) 512 512), (32, .pointer (some ⟨p1, 0, none⟩)), (31, .int .i64 (0 + 0)), (30, .int .i64 0), (29, .int .i64 0), (28, .pointer (some ⟨p1, 0, none⟩)), (27, .int .i64 0), (26, .int .i64 0), (25, .slice (some ⟨g1, 0, none⟩) 512 512), (24, .pointer (some ⟨p1, 0, none⟩)), (23, .bool false), (22, .bool false), (21, .bool false), (20, .int .i64 0), (19, .int .i64 0), (18, .bool false), (17, .bool false), (16, .pointer (some ⟨p1, 0, none⟩)), (3, .int .i64 0), (2, .pointer (some ⟨p1, 0, none⟩)), (15, .int .i64 0), (14, .pointer (some ⟨p1, 0, none⟩)), (12, .tuple #[.pointer (some ⟨p1, 0, none⟩), .int .i64 0]), (13, .tuple #[.pointer (some ⟨p1, 0, none⟩), .int .i64 0]), (9, .bool true), (8, .int .i64 ((k : Nat) : Int)), (1, .int .i64 ((k : Nat) : Int)), (0, .bool false)] ((g4, 5, bvs (rb 512 (tkF (fun _ => 9) (fun _ => 7) j))) :: (gr6, 77, bvs (wantK k)) :: (g3, 3, #[.int .i64 ((8 * k : Nat) : Int)]) :: (g2, 5, bvs (fillB 9)) :: (g1, 5, bvs (fillB 7)) :: (r5 ++ ([] : Hep)))) (k0 := 0) H (by omega) ?_
    try clear H a W
    intro j a W hj H
    by_cases hj2 : j < (2 * k)
    · refine wp_seq_k (fun K14 hK14 => ?_)
      refine sqR H gs0 fun Z_ z_ => rS 2 rfl <| rV rfl (does_binOp rfl rfl rfl (i_mulP (k := 2) (m := k) rfl (by omega) _ _)) <| rV rfl (does_binOp rfl rfl rfl (zd_lss_int (k := ((j : Nat) : Int)) (m := ((2 * k : Nat) : Int)) (decide_eq_true (by omega)) _ _)) <| rN0 z_ ?_
      try clear H a W
      intro a W H
      refine wp_cond_true (H.ev rfl) ?_
      refine wp_skip ?_
      refine hK14 _ _ ?_
      clear hK14
      refine wp_seq_k (fun K16 hK16 => ?_)
      refine wp_block ?_
      refine rgP H gs0 (rS 2 rfl <| rV rfl (does_indexAddr rfl rfl rfl (ia_b0 (j := j) (by omega))) <| rX [1] (c := bvs (rb 512 (tkF (fun _ => 9) (fun _ => 7) (j + 1)))) ⟨rfl, rfl⟩ rfl rfl rfl (st_u8t (y := 9) (tk_get (by omega) (fun _ => 9) (fun _ => 7))) (tk_set (by omega) (fun _ => 9) (fun _ => 7)) <| rZ0 ?_)
      try clear H a W
      intro a W H
      refine blk_normal ?_
      refine hK16 _ _ ?_
      clear hK16
      refine rgP H gs0 (rS 1 rfl <| rV rfl (does_binOp rfl rfl rfl (zd_add_int (k := ((j : Nat) : Int)) (m := 1) (c := ((j + 1 : Nat) : Int)) (by omega) (by omega) _ _)) <| rK [1, 1, 1, 1, 1, 1, 1, 1, 1, 0] [] [] <| rS 1 rfl <| rZ0 ?_)
      try clear H a W
      intro a W H
      refine ⟨j + 1, by omega, by omega, ?_⟩
      show St 71 w a W [(7, .int .i64 ((j + 1 : Nat) : Int)), (6, .slice (some ⟨g4, 0, none⟩) 512 512), (51, .slice (some ⟨g4, 0, none⟩) 512 512), (5, .int .i64 0), (4, .slice (some ⟨gr6, 0, none⟩) 512 512), (50, .int .i64 0), (49, .slice (some ⟨gr6, 0, none⟩) 512 512), (46, .tuple #[.slice (some ⟨gr6, 0, none⟩) 512 512, .int .i64 0]), (48, .tuple #[.slice (some ⟨gr6, 0, none⟩) 512 512, .int .i64 0]), (47, .pointer (some ⟨p1, 0, none⟩)), (45, .bool false), (44, .bool false), (43, .int .i64 (((0 + 0) + 0) + 0)), (42, .int .i64 0), (41, .int .i64 0), (40, .slice (some ⟨g3, 0, none⟩) 1 1), (39, .int .i64 ((8 * k : Nat) : Int)), (38, .int .i64 ((k : Nat) : Int)), (37, .pointer (some ⟨p1, 0, none⟩)), (36, .int .i64 ((0 + 0) + 0)), (35, .int .i64 0), (34, .int .i64 0), (33, .slice (some ⟨g2, 0, none⟩) 512 512), (32, .pointer (some ⟨p1, 0, none⟩)), (31, .int .i64 (0 + 0)), (30, .int .i64 0), (29, .int .i64 0), (28, .pointer (some ⟨p1, 0, none⟩)), (27, .int .i64 0), (26, .int .i64 0), (25, .slice (some ⟨g1, 0, none⟩) 512 512), (24, .pointer (some ⟨p1, 0, none⟩)), (23, .bool false), (22, .bool false), (21, .bool false), (20, .int .i64 0), (19, .int .i64 0), (18, .bool false), (17, .bool false), (16, .pointer (some ⟨p1, 0, none⟩)), (3, .int .i64 0), (2, .pointer (some ⟨p1, 0, none⟩)), (15, .int .i64 0), (14, .pointer (some ⟨p1, 0, none⟩)), (12, .tuple #[.pointer (some ⟨p1, 0, none⟩), .int .i64 0]), (13, .tuple #[.pointer (some ⟨p1, 0, none⟩), .int .i64 0]), (9, .bool true), (8, .int .i64 ((k : Nat) : Int)), (1, .int .i64 ((k : Nat) : Int)), (0, .bool false)] ((g4, 5, bvs (rb 512 (tkF (fun _ => 9) (fun _ => 7) (j + 1)))) :: (gr6, 77, bvs (wantK k)) :: (g3, 3, #[.int .i64 ((8 * k : Nat) : Int)]) :: (g2, 5, bvs (fillB 9)) :: (g1, 5, bvs (fillB 7)) :: (r5 ++ ([] : Hep)))
      exact H.pickF (h := [(g4, 5, bvs (rb 512 (tkF (fun _ => 9) (fun _ => 7) (j + 1)))), (gr6, 77, bvs (wantK k)), (g3, 3, #[.int .i64 ((8 * k : Nat) : Int)]), (g2, 5, bvs (fillB 9)), (g1, 5, bvs (fillB 7))]) (t := (r5 ++ ([] : Hep))) [0, 10, 11, 12, 13, 14, 15, 16, 17, 18, 19, 20, 21, 22, 23, 24, 25, 26, 27, 28, 29, 30, 31, 32, 33, 34, 35, 36, 37, 38, 39, 40, 41, 42, 43, 44, 45, 46, 47, 48, 49, 50, 51, 52, 53, 54, 55, 56, 57, 58] [0, 1, 2, 3, 4] rfl
    · obtain rfl : (2 * k) = j := by omega
      refine wp_seq_k (fun K17 hK17 => ?_)
      refine sqR H gs0 fun Z_ z_ => rS 2 rfl <| rV rfl (does_binOp rfl rfl rfl (i_mulP (k := 2) (m := k) rfl (by omega) _ _)) <| rV rfl (does_binOp rfl rfl rfl (zd_lss_int (k := (((2 * k) : Nat) : Int)) (m := ((2 * k : Nat) : Int)) (decide_eq_false (by omega)) _ _)) <| rN0 z_ ?_
      try clear H a W
      intro a W H
      refine wp_cond_false (H.ev rfl) ?_
      refine wp_exit ?_
      repeat (first | (with_reducible refine then_exit ?_) | (with_reducible refine blk_pass (by decide) ?_))
      refine blk_exit ?_
      refine hK12 _ _ ?_
      clear hK12
      refine sqR H gs0 fun Z_ z_ => rS 1 rfl <| rV rfl (does_call rfl ⟨_, Try.func13, by kernel_rfl⟩ rfl (fun W hb => num_any _ W)) <| rV rfl (does_binOp rfl rfl rfl (zd_neq_int (k := 0) (m := 0) (decide_eq_false (by omega)) _ _)) <| rS 2 rfl <| rOV rfl (fun a W H _ => ob_strP H (wanted_some rfl rfl rfl rfl rfl) rfl rfl (sl_bf (want_len _) (H.blk (k := 1) rfl))) <| rS 1 rfl <| rOV rfl (fun a W H _ => ob_strP H (wanted_some rfl rfl rfl rfl rfl) rfl rfl (sl_bf (rb_len _ _) (H.blk (k := 0) rfl))) <| rV rfl (does_binOp rfl rfl rfl (sd_neqP (l := wantK k) (m := rb 512 (tkF (fun _ => 9) (fun _ => 7) (2 * k))) (decide_eq_false (fun h => h want_tk.symm)) _ _)) <| rS 1 rfl <| rN0 z_ ?_
      try clear H a W
      intro a W H
      refine wp_cond_false (H.ev rfl) ?_
      refine wp_skip ?_
      refine blk_normal ?_
      refine hK6 _ _ ?_
      clear hK6
      replace H : St 71 w a W [(70, .bool false), (69, .bool false), (68, .string (strB (rb 512 (tkF (fun _ => 9) (fun _ => 7) (2 * k))))), (67, .slice (some ⟨g4, 0, none⟩) 512 512), (66, .string (strB (wantK k))), (65, .slice (some ⟨gr6, 0, none⟩) 512 512), (64, .bool false), (63, .bool false), (62, .int .i64 0), (61, .int .i64 0), (55, .bool false), (54, .int .i64 ((2 * k : Nat) : Int)), (53, .int .i64 ((k : Nat) : Int)), (52, .int .i64 (((2 * k) : Nat) : Int)), (7, .int .i64 (((2 * k) : Nat) : Int)), (6, .slice (some ⟨g4, 0, none⟩) 512 512), (51, .slice (some ⟨g4, 0, none⟩) 512 512), (5, .int .i64 0), (4, .slice (some ⟨gr6, 0, none⟩) 512 512), (50, .int .i64 0), (49, .slice (some ⟨gr6, 0, none⟩) 512 512), (46, .tuple #[.slice (some ⟨gr6, 0, none⟩) 512 512, .int .i64 0]), (48, .tuple #[.slice (some ⟨gr6, 0, none⟩) 512 512, .int .i64 0]), (47, .pointer (some ⟨p1, 0, none⟩)), (45, .bool false), (44, .bool false), (43, .int .i64 (((0 + 0) + 0) + 0)), (42, .int .i64 0), (41, .int .i64 0), (40, .slice (some ⟨g3, 0, none⟩) 1 1), (39, .int .i64 ((8 * k : Nat) : Int)), (38, .int .i64 ((k : Nat) : Int)), (37, .pointer (some ⟨p1, 0, none⟩)), (36, .int .i64 ((0 + 0) + 0)), (35, .int .i64 0), (34, .int .i64 0), (33, .slice (some ⟨g2, 0, none⟩) 512 512), (32, .pointer (some ⟨p1, 0, none⟩)), (31, .int .i64 (0 + 0)), (30, .int .i64 0), (29, .int .i64 0), (28, .pointer (some ⟨p1, 0, none⟩)), (27, .int .i64 0), (26, .int .i64 0), (25, .slice (some ⟨g1, 0, none⟩) 512 512), (24, .pointer (some ⟨p1, 0, none⟩)), (23, .bool false), (22, .bool false), (21, .bool false), (20, .int .i64 0), (19, .int .i64 0), (18, .bool false), (17, .bool false), (16, .pointer (some ⟨p1, 0, none⟩)), (3, .int .i64 0), (2, .pointer (some ⟨p1, 0, none⟩)), (15, .int .i64 0), (14, .pointer (some ⟨p1, 0, none⟩)), (12, .tuple #[.pointer (some ⟨p1, 0, none⟩), .int .i64 0]), (13, .tuple #[.pointer (some ⟨p1, 0, none⟩), .int .i64 0]), (9, .bool true), (8, .int .i64 ((k : Nat) : Int)), (1, .int .i64 ((k : Nat) : Int)), (0, .bool false)] (([(g4, .ty 5, bvs (rb 512 (tkF (fun _ => 9) (fun _ => 7) (2 * k)))), (gr6, .ty 77, bvs (wantK k)), (g3, .ty 3, #[.int .i64 ((8 * k : Nat) : Int)]), (g2, .ty 5, bvs (fillB 9)), (g1, .ty 5, bvs (fillB 7))] : Hep) ++ (r5 ++ ([] : Hep))) := H.perm' ((List.Perm.refl _).append_left ([(g4, .ty 5, bvs (rb 512 (tkF (fun _ => 9) (fun _ => 7) (2 * k)))), (gr6, .ty 77, bvs (wantK k)), (g3, .ty 3, #[.int .i64 ((8 * k : Nat) : Int)]), (g2, .ty 5, bvs (fillB 9)), (g1, .ty 5, bvs (fillB 7))] : Hep))
      replace H := H.dropR
      replace H : St 71 w a W [(70, .bool false), (69, .bool false), (68, .string (strB (rb 512 (tkF (fun _ => 9) (fun _ => 7) (2 * k))))), (67, .slice (some ⟨g4, 0, none⟩) 512 512), (66, .string (strB (wantK k))), (65, .slice (some ⟨gr6, 0, none⟩) 512 512), (64, .bool false), (63, .bool false), (62, .int .i64 0), (61, .int .i64 0), (55, .bool false), (54, .int .i64 ((2 * k : Nat) : Int)), (53, .int .i64 ((k : Nat) : Int)), (52, .int .i64 (((2 * k) : Nat) : Int)), (7, .int .i64 (((2 * k) : Nat) : Int)), (6, .slice (some ⟨g4, 0, none⟩) 512 512), (51, .slice (some ⟨g4, 0, none⟩) 512 512), (5, .int .i64 0), (4, .slice (some ⟨gr6, 0, none⟩) 512 512), (50, .int .i64 0), (49, .slice (some ⟨gr6, 0, none⟩) 512 512), (46, .tuple #[.slice (some ⟨gr6, 0, none⟩) 512 512, .int .i64 0]), (48, .tuple #[.slice (some ⟨gr6, 0, none⟩) 512 512, .int .i64 0]), (47, .pointer (some ⟨p1, 0, none⟩)), (45, .bool false), (44, .bool false), (43, .int .i64 (((0 + 0) + 0) + 0)), (42, .int .i64 0), (41, .int .i64 0), (40, .slice (some ⟨g3, 0, none⟩) 1 1), (39, .int .i64 ((8 * k : Nat) : Int)), (38, .int .i64 ((k : Nat) : Int)), (37, .pointer (some ⟨p1, 0, none⟩)), (36, .int .i64 ((0 + 0) + 0)), (35, .int .i64 0), (34, .int .i64 0), (33, .slice (some ⟨g2, 0, none⟩) 512 512), (32, .pointer (some ⟨p1, 0, none⟩)), (31, .int .i64 (0 + 0)), (30, .int .i64 0), (29, .int .i64 0), (28, .pointer (some ⟨p1, 0, none⟩)), (27, .int .i64 0), (26, .int .i64 0), (25, .slice (some ⟨g1, 0, none⟩) 512 512), (24, .pointer (some ⟨p1, 0, none⟩)), (23, .bool false), (22, .bool false), (21, .bool false), (20, .int .i64 0), (19, .int .i64 0), (18, .bool false), (17, .bool false), (16, .pointer (some ⟨p1, 0, none⟩)), (3, .int .i64 0), (2, .pointer (some ⟨p1, 0, none⟩)), (15, .int .i64 0), (14, .pointer (some ⟨p1, 0, none⟩)), (12, .tuple #[.pointer (some ⟨p1, 0, none⟩), .int .i64 0]), (13, .tuple #[.pointer (some ⟨p1, 0, none⟩), .int .i64 0]), (9, .bool true), (8, .int .i64 ((k : Nat) : Int)), (1, .int .i64 ((k : Nat) : Int)), (0, .bool false)] ((g4, 5, bvs (rb 512 (tkF (fun _ => 9) (fun _ => 7) (2 * k)))) :: (gr6, 77, bvs (wantK k)) :: (g3, 3, #[.int .i64 ((8 * k : Nat) : Int)]) :: (g2, 5, bvs (fillB 9)) :: (g1, 5, bvs (fillB 7)) :: ([] : Hep)) := H
      refine rgP H gs0 (rS 1 rfl <| rV rfl (does_binOp rfl rfl rfl (zd_add_int (k := ((k : Nat) : Int)) (m := 1) (c := ((k + 1 : Nat) : Int)) (by omega) (by omega) _ _)) <| rK [1, 1, 1, 1, 1, 1, 1, 1, 1, 1, 1, 1, 1, 1, 1, 1, 1, 1, 1, 1, 1, 1, 1, 1, 1, 1, 1, 1, 1, 1, 1, 1, 1, 1, 1, 1, 1, 1, 1, 1, 1, 1, 1, 1, 1, 1, 1, 1, 1, 1, 1, 1, 1, 1, 1, 1, 1, 1, 1, 1, 1, 1, 1, 1, 0] [] [] <| rS 1 rfl <| rZ0 ?_)
      try clear H a W
      intro a W H
      refine ⟨k + 1, by omega, by omega, ?_⟩
      show St 71 w a W [(1, .int .i64 ((k + 1 : Nat) : Int)), (0, .bool false)] (([] : Hep))
      exact H.pickF (h := [(g4, 5, bvs (rb 512 (tkF (fun _ => 9) (fun _ => 7) (2 * k)))), (gr6, 77, bvs (wantK k)), (g3, 3, #[.int .i64 ((8 * k : Nat) : Int)]), (g2, 5, bvs (fillB 9)), (g1, 5, bvs (fillB 7))]) (t := ([] : Hep)) [0, 65] [] rfl
  · obtain rfl : 2 = k := by omega
    refine wp_seq_k (fun K20 hK20 => ?_)
    refine sqR H gs0 fun Z_ z_ => rS 1 rfl <| rV rfl (does_binOp rfl rfl rfl (zd_lss_int (k := ((2 : Nat) : Int)) (m := 2) (decide_eq_false (by omega)) _ _)) <| rK [1, 0] [] [] <| rN0 z_ ?_
    try clear H a W
    intro a W H
    refine wp_cond_false (H.ev rfl) ?_
    refine wp_exit ?_
    repeat (first | (with_reducible refine then_exit ?_) | (with_reducible refine blk_pass (by decide) ?_))
    refine blk_exit ?_
    refine hK2 _ _ ?_
    clear hK2
    refine sqR H gs0 fun Z_ z_ => rK [1, 1, 0] [] [] <| rS 1 rfl <| rK [1, 0, 0] [] [] <| rN0 z_ ?_
    try clear H a W
    intro a W H
    refine wp_ret ?_
    repeat (first | (with_reducible refine then_ret ?_) | (with_reducible refine blk_ret ?_))
    refine end_tmp (p := 0) rfl rfl H (fun hb => ?_)
    exact ⟨rfl, hb⟩
end Go.Proofs.Ytiebelmglchbdaa
