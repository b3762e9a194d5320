/- Package disk (layer 14): settle, read. -/
import Derived.Test.YtiebelmglchbdaaPb
namespace Go.Proofs.Ytiebelmglchbdaa
set_option linter.unusedVariables false
set_option linter.unusedSimpArgs false
set_option maxRecDepth 100000
open Go Go.RowKit

theorem dwa_size {p : Nat × List UInt8} (h : p.2.length = 512) : (dwa p).size = 513 := by rw [show (dwa p).size = (dwv p).length from List.size_toArray, dwv_len h]
attribute [local irreducible] bvs dwa entsI zeroB lastsB
set_option maxHeartbeats 4000000 in
theorem settle_p {p m c : Nat} {es : List EntI} {nb lf : Int} {vU vQ : Value} {hf dd : Bool} (n k : Nat) (to b : List UInt8) (hk : k ≤ 512) (hl_to : to.length = 512) (hl_b : b.length = 512) (hes : (lookI es ((n : Nat) : Int)).getD (.agg (bvs zeroB)) = .agg (bvs b)) {hh : Hep} (w0 w : World) (K : Kn w0 w ([(p, .ty 58, (dkC nb (.map (some m)) vU vQ hf lf dd)), (m, .map (entsI es) c, #[])] ++ hh)) : Calls Try.prog 46 #[.pointer (some ⟨p, 0, none⟩), .agg (dwa (n, to)), .int .i64 ((k : Nat) : Int)] w (fun rr w' => rr = .returned (.tuple #[]) ∧ Kn w0 w' ([(p, .ty 58, (dkC nb (.map (some m)) vU vQ hf lf dd)), (m, .map (entsI (setI ((n : Nat) : Int) (.agg (bvs (tornB k to b))) c es)) (clockI es ((n : Nat) : Int) c), #[])] ++ hh)) := by
  refine calls_kn (vs := [.pointer (some ⟨p, 0, none⟩), .agg (dwa (n, to)), .int .i64 ((k : Nat) : Int)]) 26 Try.func46 rfl Try.ntmps46 rfl K (fun a W H => ?_)
  replace H : St 26 w0 a W [(0, .pointer (some ⟨p, 0, none⟩)), (1, .agg (dwa (n, to))), (2, .int .i64 ((k : Nat) : Int))] ((p, 58, (dkC nb (.map (some m)) vU vQ hf lf dd)) :: (m, .map (entsI es) c, #[]) :: hh) := H
  refine sqR H gs0 fun Z_ z_ => rB rfl rfl rfl (bx_write _) fun g1 => rK [1, 1, 0] [] [] <| rN0 z_ ?_
  try clear H a W
  intro a W H
  refine sqD [.v 7 _ [], .v 8 _ [0], .v 9 _ [1], .v 10 _ [2], .v 11 _ [], .v 12 _ [4], .v 13 _ [3, 5], .f 6 _ []] (by kernel_rfl) (by kernel_rfl) H gs0 (fun _ => ⟨oS rfl rfl, oV rfl (does_nilCheckQ rfl rfl), oV rfl (does_fieldAddr rfl rfl (fa_dk 1 (by decide))), oV rfl (does_loadAt (v := .map (some m)) rfl rfl (k := 1) rfl ld_dk1), oV rfl (does_fieldAddr rfl rfl fa_write0), oV rfl (does_loadAt (v := .int .i64 ((n : Nat) : Int)) rfl rfl (k := 0) rfl ld_w0), oV rfl (does_lookV (k := 2) (v := .agg (bvs b)) rfl rfl rfl rfl Try.underlying54 Try.underlying3 zero_block hes), ⟨oN rfl rfl al_block, fun _ => inferInstance⟩, trivial⟩) fun Z_ z_ => rNw fun g2 => rW [1] ⟨rfl, rfl⟩ rfl rfl rfl (info_block hl_b) (size_block zero_len hl_b) (bvs_oneP _) <| rK [1, 0, 0, 0, 0, 0, 0, 0] [] [] <| rN0 z_ ?_
  try clear H a W
  intro a W H
  refine wp_seq_k (fun K3 hK3 => ?_)
  refine d2 [.v 14 _ [], .v 15 _ [], .v 16 _ [], .v 17 _ [1, 2]] (by kernel_rfl) (by kernel_rfl) H gs0 ⟨oV rfl (does_slice rfl rfl (vl := none) (vh := none) rfl rfl sl_block), oV rfl (does_fieldAddr rfl rfl fa_write1), oS rfl rfl, oV rfl (does_slice rfl rfl (vl := none) (vh := some (.int .i64 ((k : Nat) : Int))) rfl rfl (sl_part (by omega))), trivial⟩ (rI0 ?_)
  try clear H a W
  intro a W H
  refine pl_copy rfl Try.underlying39 size_u8P rfl rfl (k := 0) rfl (k2 := 1) rfl (m := k) (Nat.min_eq_left (by omega)) (by rw [dwa_size hl_to]; omega) (by rw [bvs_size, hl_b]; omega) (dwa_one _) (torn_copy (by omega) hl_b hl_to) rfl rfl rfl rfl H ?_
  try clear H a W
  intro a W H
  replace H : St 26 w0 a W [(18, .int .i64 ((k : Nat) : Int)), (17, .slice (some ⟨g1, 1, none⟩) k 512), (16, .int .i64 ((k : Nat) : Int)), (15, .pointer (some ⟨g1, 1, none⟩)), (14, .slice (some ⟨g2, 0, none⟩) 512 512), (6, .pointer (some ⟨g2, 0, none⟩)), (4, .pointer (some ⟨g1, 0, none⟩)), (0, .pointer (some ⟨p, 0, none⟩)), (2, .int .i64 ((k : Nat) : Int))] ((g2, 77, bvs (tornB k to b)) :: (g1, 82, dwa (n, to)) :: (p, 58, (dkC nb (.map (some m)) vU vQ hf lf dd)) :: (m, .map (entsI es) c, #[]) :: hh) := H
  refine rgO H gs0 (rK [0, 0, 0, 0, 0, 1, 1, 1, 0] [] [] <| rZ0 ?_)
  try clear H a W
  intro a W H
  refine hK3 _ _ ?_
  clear hK3
  refine d2 [.v 19 _ [], .v 20 _ [0], .v 21 _ [1], .v 22 _ [2], .v 23 _ [], .v 24 _ [4], .v 25 _ []] (by kernel_rfl) (by kernel_rfl) H gs0 ⟨oS rfl rfl, oV rfl (does_nilCheckQ rfl rfl), oV rfl (does_fieldAddr rfl rfl (fa_dk 1 (by decide))), oV rfl (does_loadAt (v := .map (some m)) rfl rfl (k := 2) rfl ld_dk1), oV rfl (does_fieldAddr rfl rfl fa_write0), oV rfl (does_loadAt (v := .int .i64 ((n : Nat) : Int)) rfl rfl (k := 1) rfl ld_w0), oV rfl (does_load rfl rfl (k := 0) rfl Try.underlying77 rfl (info_block (torn_len hk hl_to hl_b))), trivial⟩ (rI0 ?_)
  try clear H a W
  intro a W H
  refine pl_setI (k := 3) rfl rfl rfl rfl rfl Try.underlying54 Try.underlying3 rfl rfl H ?_
  try clear H a W
  intro a W H
  replace H : St 26 w0 a W [(25, .agg (bvs (tornB k to b))), (24, .int .i64 ((n : Nat) : Int)), (23, .pointer (some ⟨g1, 0, none⟩)), (22, .map (some m)), (21, .pointer (some ⟨p, 1, none⟩)), (20, .pointer (some ⟨p, 0, none⟩)), (19, .pointer (some ⟨p, 0, none⟩)), (6, .pointer (some ⟨g2, 0, none⟩)), (4, .pointer (some ⟨g1, 0, none⟩)), (0, .pointer (some ⟨p, 0, none⟩))] ((g2, 77, bvs (tornB k to b)) :: (g1, 82, dwa (n, to)) :: (p, 58, (dkC nb (.map (some m)) vU vQ hf lf dd)) :: (m, .map (entsI (setI ((n : Nat) : Int) (.agg (bvs (tornB k to b))) c es)) (clockI es ((n : Nat) : Int) c), #[]) :: hh) := H
  refine rgO H gs0 (rK [0, 0, 0, 0, 0, 0, 0, 0, 0, 0] [0, 0] [] <| rZ0 ?_)
  try clear H a W
  intro a W H
  refine end_none rfl H (fun hk => ?_)
  refine ⟨rfl, ?_⟩
  show Kn w0 W ((p, .ty 58, (dkC nb (.map (some m)) vU vQ hf lf dd)) :: (m, .map (entsI (setI ((n : Nat) : Int) (.agg (bvs (tornB k to b))) c es)) (clockI es ((n : Nat) : Int) c), #[]) :: hh)
  have H_ := H.pickF (h := [(p, .ty 58, (dkC nb (.map (some m)) vU vQ hf lf dd)), (m, .map (entsI (setI ((n : Nat) : Int) (.agg (bvs (tornB k to b))) c es)) (clockI es ((n : Nat) : Int) c), #[])]) (t := hh) [] [0, 1] rfl
  exact H_.kn
set_option maxHeartbeats 4000000 in
theorem read_old {p m c q cq nU cU : Nat} {A : Option Addr} {es ls : List EntI} {nb lf : Int} {hf dd : Bool} {t : Hep} (n : Nat) (b : List UInt8) (hl_b : b.length = 512) (hq : lookI ls ((n : Nat) : Int) = none) (hes : (lookI es ((n : Nat) : Int)).getD (.agg (bvs zeroB)) = .agg (bvs b)) {hh : Hep} (w0 w : World) (K : Kn w0 w ([(p, .ty 58, (dkC nb (.map (some m)) (.slice A nU cU) (.map (some q)) hf lf dd)), (m, .map (entsI es) c, #[]), (q, .map (entsI ls) cq, #[])] ++ (t ++ hh))) : Calls Try.prog 42 #[.pointer (some ⟨p, 0, none⟩), .int .i64 ((n : Nat) : Int)] w (fun rr w' => rr = .returned (.agg (bvs b)) ∧ Kn w0 w' ([(p, .ty 58, (dkC nb (.map (some m)) (.slice A nU cU) (.map (some q)) hf lf dd)), (m, .map (entsI es) c, #[]), (q, .map (entsI ls) cq, #[])] ++ (t ++ hh))) := by
  refine calls_kn (vs := [.pointer (some ⟨p, 0, none⟩), .int .i64 ((n : Nat) : Int)]) 31 Try.func42 rfl Try.ntmps42 rfl K (fun a W H => ?_)
  replace H : St 31 w0 a W [(0, .pointer (some ⟨p, 0, none⟩)), (1, .int .i64 ((n : Nat) : Int))] ((p, 58, (dkC nb (.map (some m)) (.slice A nU cU) (.map (some q)) hf lf dd)) :: (m, .map (entsI es) c, #[]) :: (q, .map (entsI ls) cq, #[]) :: (t ++ hh)) := H
  refine sqR H gs0 fun Z_ z_ => rA rfl rfl al_block fun g1 => rN0 z_ ?_
  try clear H a W
  intro a W H
  refine wp_seq_k (fun K2 hK2 => ?_)
  refine sqR H gs0 fun Z_ z_ => rS 1 rfl <| rV rfl (does_nilCheckQ rfl rfl) <| rV rfl (does_fieldAddr rfl rfl (fa_dk 3 (by decide))) <| rV rfl (does_loadAt (v := .map (some q)) rfl rfl (k := 1) rfl ld_dk3) <| rS 1 rfl <| rV rfl (does_lookO (k := 3) (r := none) rfl rfl rfl rfl Try.underlying56 Try.underlying3 zero_int hq) <| rS 5 rfl <| rK [1, 1, 0, 0, 0, 0, 0, 0, 0, 0, 0] [] [] <| rN0 z_ ?_
  try clear H a W
  intro a W H
  refine sqR H gs0 fun Z_ z_ => rS 1 rfl <| rK [1, 0] [] [] <| rN0 z_ ?_
  try clear H a W
  intro a W H
  refine wp_cond_false (H.ev rfl) ?_
  refine wp_skip ?_
  refine hK2 _ _ ?_
  clear hK2
  refine sqR H gs0 fun Z_ z_ => rS 1 rfl <| rV rfl (does_nilCheckQ rfl rfl) <| rV rfl (does_fieldAddr rfl rfl (fa_dk 1 (by decide))) <| rV rfl (does_loadAt (v := .map (some m)) rfl rfl (k := 1) rfl ld_dk1) <| rS 1 rfl <| rV rfl (does_lookV (k := 2) (v := .agg (bvs b)) rfl rfl rfl rfl Try.underlying54 Try.underlying3 zero_block hes) <| rW [1] ⟨rfl, rfl⟩ rfl rfl rfl (info_block hl_b) (size_block zero_len hl_b) (bvs_oneP _) <| rK [0, 0, 0, 0, 0, 0, 0, 0, 1, 0, 0] [] [] <| rN0 z_ ?_
  try clear H a W
  intro a W H
  refine wp_ret ?_
  repeat (first | (with_reducible refine then_ret ?_) | (with_reducible refine blk_ret ?_))
  refine end_cell (p := 4) rfl rfl (k := 0) rfl Try.underlying77 rfl (info_block hl_b) H (fun hb => ?_)
  refine ⟨rfl, ?_⟩
  show Kn w0 W ((p, .ty 58, (dkC nb (.map (some m)) (.slice A nU cU) (.map (some q)) hf lf dd)) :: (m, .map (entsI es) c, #[]) :: (q, .map (entsI ls) cq, #[]) :: (t ++ hh))
  have H_ := H.pickF (h := [(g1, .ty 77, bvs b), (p, .ty 58, (dkC nb (.map (some m)) (.slice A nU cU) (.map (some q)) hf lf dd)), (m, .map (entsI es) c, #[]), (q, .map (entsI ls) cq, #[])]) (t := (t ++ hh)) [] [1, 2, 3] rfl
  exact H_.kn
set_option maxHeartbeats 4000000 in
theorem read_new {p m c q cq nU cU : Nat} {A : Option Addr} {es ls : List EntI} {nb lf : Int} {hf dd : Bool} {t : Hep} (n : Nat) (b : List UInt8) (hl_b : b.length = 512) {gu k : Nat} {cur : Array Value} (hq : lookI ls ((n : Nat) : Int) = some (.int .i64 ((k : Nat) : Int))) (hA : A = some ⟨gu, 0, none⟩) (hk : k < nU) (hmem : (gu, .ty 82, cur) ∈ t) (hld : ∀ W, Blk W gu (.ty 82) cur → (Instr.loadAt 77 (.pointer (some ⟨gu, 0 + k * 513 + 1, none⟩))).run Try.prog W = .ok (.agg (bvs b)) W) {hh : Hep} (w0 w : World) (K : Kn w0 w ([(p, .ty 58, (dkC nb (.map (some m)) (.slice A nU cU) (.map (some q)) hf lf dd)), (m, .map (entsI es) c, #[]), (q, .map (entsI ls) cq, #[])] ++ (t ++ hh))) : Calls Try.prog 42 #[.pointer (some ⟨p, 0, none⟩), .int .i64 ((n : Nat) : Int)] w (fun rr w' => rr = .returned (.agg (bvs b)) ∧ Kn w0 w' ([(p, .ty 58, (dkC nb (.map (some m)) (.slice A nU cU) (.map (some q)) hf lf dd)), (m, .map (entsI es) c, #[]), (q, .map (entsI ls) cq, #[])] ++ (t ++ hh))) := by
  refine calls_kn (vs := [.pointer (some ⟨p, 0, none⟩), .int .i64 ((n : Nat) : Int)]) 31 Try.func42 rfl Try.ntmps42 rfl K (fun a W H => ?_)
  replace H : St 31 w0 a W [(0, .pointer (some ⟨p, 0, none⟩)), (1, .int .i64 ((n : Nat) : Int))] ((p, 58, (dkC nb (.map (some m)) (.slice A nU cU) (.map (some q)) hf lf dd)) :: (m, .map (entsI es) c, #[]) :: (q, .map (entsI ls) cq, #[]) :: (t ++ hh)) := H
  refine sqR H gs0 fun Z_ z_ => rA rfl rfl al_block fun g1 => rN0 z_ ?_
  try clear H a W
  intro a W H
  refine wp_seq_k (fun K2 hK2 => ?_)
  refine sqR H gs0 fun Z_ z_ => rS 1 rfl <| rV rfl (does_nilCheckQ rfl rfl) <| rV rfl (does_fieldAddr rfl rfl (fa_dk 3 (by decide))) <| rV rfl (does_loadAt (v := .map (some q)) rfl rfl (k := 1) rfl ld_dk3) <| rS 1 rfl <| rV rfl (does_lookO (k := 3) (r := (some (.int .i64 ((k : Nat) : Int)))) rfl rfl rfl rfl Try.underlying56 Try.underlying3 zero_int hq) <| rS 5 rfl <| rK [1, 1, 0, 0, 0, 0, 0, 0, 0, 0, 0] [] [] <| rN0 z_ ?_
  try clear H a W
  intro a W H
  refine sqR H gs0 fun Z_ z_ => rS 1 rfl <| rK [1, 0] [] [] <| rN0 z_ ?_
  try clear H a W
  intro a W H
  refine wp_cond_true (H.ev rfl) ?_
  refine sqR H gs0 fun Z_ z_ => rS 1 rfl <| rV rfl (does_nilCheckQ rfl rfl) <| rV rfl (does_fieldAddr rfl rfl (fa_dk 2 (by decide))) <| rV rfl (does_loadAt (v := .slice A nU cU) rfl rfl (k := 1) rfl ld_dk2) <| rS 1 rfl <| rV rfl (does_indexAddr rfl rfl rfl (ia_writes (j := k) hA hk)) <| rV rfl (does_fieldAddr rfl rfl fa_write1) <| rV rfl (does_loadMem (v := .agg (bvs b)) rfl rfl (List.mem_cons_of_mem _ (List.mem_cons_of_mem _ (List.mem_cons_of_mem _ (List.mem_cons_of_mem _ (List.mem_append_left _ hmem))))) hld) <| rW [1] ⟨rfl, rfl⟩ rfl rfl rfl (info_block hl_b) (size_block zero_len hl_b) (bvs_oneP _) <| rK [0, 0, 0, 0, 0, 0, 0, 0, 0, 0] [] [] <| rN0 z_ ?_
  try clear H a W
  intro a W H
  refine wp_ret ?_
  repeat (first | (with_reducible refine then_ret ?_) | (with_reducible refine blk_ret ?_))
  refine end_cell (p := 4) rfl rfl (k := 0) rfl Try.underlying77 rfl (info_block hl_b) H (fun hb => ?_)
  refine ⟨rfl, ?_⟩
  show Kn w0 W ((p, .ty 58, (dkC nb (.map (some m)) (.slice A nU cU) (.map (some q)) hf lf dd)) :: (m, .map (entsI es) c, #[]) :: (q, .map (entsI ls) cq, #[]) :: (t ++ hh))
  have H_ := H.pickF (h := [(g1, .ty 77, bvs b), (p, .ty 58, (dkC nb (.map (some m)) (.slice A nU cU) (.map (some q)) hf lf dd)), (m, .map (entsI es) c, #[]), (q, .map (entsI ls) cq, #[])]) (t := (t ++ hh)) [] [1, 2, 3] rfl
  exact H_.kn
end Go.Proofs.Ytiebelmglchbdaa
