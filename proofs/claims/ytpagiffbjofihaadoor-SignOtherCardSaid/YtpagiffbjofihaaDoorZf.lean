/- Words, contracts and walks (Gp, Gk, Gm, Go), laid together. No condition. -/
import Derived.Test.YtpagiffbjofihaaDoorZe
namespace Go.Proofs.YtpagiffbjofihaaDoor
set_option linter.unusedVariables false
set_option linter.unusedSimpArgs false
set_option maxRecDepth 100000
open Go Go.RowKit
theorem num_def (l : List UInt8) : num l = hN l % LL' := rfl
theorem seedA_def (x : Nat) : seedA x = clampK (hN (kby x) % 115792089237316195423570985008687907853269984665640564039457584007913129639936) := rfl
theorem seedP_def (x : Nat) : seedP x = hN (kby x) / 115792089237316195423570985008687907853269984665640564039457584007913129639936 := rfl
theorem sigS_def (x : Nat) (l : List UInt8) : sigS x l = (sigH (sigP x l) (pubN x) l * seedA x + sigR x l) % LL' := rfl
theorem signN_def (x : Nat) (l : List UInt8) : signN x l = sigP x l + 115792089237316195423570985008687907853269984665640564039457584007913129639936 * sigS x l := rfl
theorem pubN_def (x : Nat) : pubN x = pbn (BP.mul (seedA x)) := rfl
theorem sigP_def (x : Nat) (l : List UInt8) : sigP x l = pbn (BP.mul (sigR x l)) := rfl
theorem sigR_def (x : Nat) (l : List UInt8) : sigR x l = num (kby (seedP x) ++ l) := rfl
theorem sigH_def (x y : Nat) (l : List UInt8) : sigH x y l = num (kby x ++ (kby y ++ l)) := rfl
attribute [local irreducible] ev sv ks Scl.ls ptSet ptAdd ptMul ptNeg ptE rootC EE II TD BX BY BE kby num seedA seedP pubN sigR sigP sigH sigS signN checkN clampK pbn BP er
set_option maxHeartbeats 4000000 in
theorem halves_any (n : Nat) (w : World) (hgl : GL w) : Calls Tryd.prog 15 #[.agg (Scl.ls n)] w (fun rr w' => rr = .returned (.tuple #[.agg (ks (n % 115792089237316195423570985008687907853269984665640564039457584007913129639936)), .agg (ks (n / 115792089237316195423570985008687907853269984665640564039457584007913129639936))]) ∧ Below w.heap.size w w') := by
  refine calls_st (vs := [.agg (Scl.ls n)]) 12 Tryd.func15 rfl Tryd.ntmps15 rfl (fun a W H => ?_)
  replace H : St 12 w a W [(0, .agg (Scl.ls n))] [] := H
  refine wp_seq_k (fun K1 hK1 => ?_)
  refine rg_plain ?_
  refine pl_box rfl rfl (bx_long n) rfl rfl rfl rfl H ?_
  try clear H a W
  intro g1 a W H
  refine pl_new (news_of rfl al_key0) rfl rfl rfl rfl H ?_
  try clear H a W
  intro g2 a W H
  refine pl_new (news_of rfl al_key0) rfl rfl rfl rfl H ?_
  try clear H a W
  intro g3 a W H
  refine pl_end ?_
  replace H : St 12 w a W [(3, .pointer (some ⟨g3, 0, none⟩)), (2, .pointer (some ⟨g2, 0, none⟩)), (1, .pointer (some ⟨g1, 0, none⟩))] [(g3, 23, ks 0), (g2, 23, ks 0), (g1, 27, Scl.ls n)] := H.pick [0, 1, 2] [0, 1, 2] rfl
  refine hK1 _ _ ?_
  clear hK1
  refine wp_seq_k (fun K2 hK2 => ?_)
  refine drawnR (Grow w.heap.size [(g3, 23, ks 0), (g2, 23, ks 0), (g1, 27, Scl.ls n)]) (Grow w.heap.size [(g3, 23, ks 0), (g2, 23, ks 0), (g1, 27, Scl.ls n)]) [⟨4, fun u_ _ => u_ = .slice (some ⟨g2, 0, none⟩) 32 32, [], none, false⟩, ⟨5, fun u_ _ => u_ = .slice (some ⟨g1, 0, none⟩) 32 64, [], none, false⟩] [0, 0, 3] [0, 1] grow_st grow_st (by kernel_rfl) (by kernel_rfl) (by kernel_rfl) H ⟨⟨fun a W  H => by exact ob_val H (wanted_none rfl) (does_slice rfl rfl (vl := none) (vh := none) rfl rfl (sl_key g2)), val_grow, fun _ => val_grow⟩, ⟨fun a W  H => by exact ob_val H (wanted_none rfl) (does_slice rfl rfl (vl := none) (vh := some (.int .i64 32)) rfl rfl (sl_lo g1)), val_grow, fun _ => val_grow⟩, trivial⟩ (by kernel_rfl) ?_
  try clear H a W
  intro a W
  rintro _ rfl
  rintro _ rfl
  intro H
  replace H : St 12 w a W [(5, .slice (some ⟨g1, 0, none⟩) 32 64), (4, .slice (some ⟨g2, 0, none⟩) 32 32), (3, .pointer (some ⟨g3, 0, none⟩)), (2, .pointer (some ⟨g2, 0, none⟩)), (1, .pointer (some ⟨g1, 0, none⟩))] [(g3, 23, ks 0), (g2, 23, ks 0), (g1, 27, Scl.ls n)] := H
  refine pl_copy rfl Tryd.underlying24 size_u8b rfl rfl (k := 1) rfl (k2 := 2) rfl (m := 32) rfl (by simp only [ks_size, Scl.ls_size] <;> omega) (by simp only [ks_size, Scl.ls_size] <;> omega) (ls_one _) (splice_lo _ _) rfl rfl rfl rfl H ?_
  try clear H a W
  intro a W H
  replace H : St 12 w a W [(6, .int .i64 ((32 : Nat) : Int)), (5, .slice (some ⟨g1, 0, none⟩) 32 64), (4, .slice (some ⟨g2, 0, none⟩) 32 32), (3, .pointer (some ⟨g3, 0, none⟩)), (2, .pointer (some ⟨g2, 0, none⟩)), (1, .pointer (some ⟨g1, 0, none⟩))] [(g3, 23, ks 0), (g2, 23, ks (n % 115792089237316195423570985008687907853269984665640564039457584007913129639936)), (g1, 27, Scl.ls n)] := H
  refine pl_end ?_
  replace H : St 12 w a W [(3, .pointer (some ⟨g3, 0, none⟩)), (2, .pointer (some ⟨g2, 0, none⟩)), (1, .pointer (some ⟨g1, 0, none⟩))] [(g3, 23, ks 0), (g2, 23, ks (n % 115792089237316195423570985008687907853269984665640564039457584007913129639936)), (g1, 27, Scl.ls n)] := H.pick [3, 4, 5] [0, 1, 2] rfl
  refine hK2 _ _ ?_
  clear hK2
  refine wp_seq_k (fun K3 hK3 => ?_)
  refine drawnR (Grow w.heap.size [(g3, 23, ks 0), (g2, 23, ks (n % 115792089237316195423570985008687907853269984665640564039457584007913129639936)), (g1, 27, Scl.ls n)]) (Grow w.heap.size [(g3, 23, ks 0), (g2, 23, ks (n % 115792089237316195423570985008687907853269984665640564039457584007913129639936)), (g1, 27, Scl.ls n)]) [⟨7, fun u_ _ => u_ = .slice (some ⟨g3, 0, none⟩) 32 32, [], none, false⟩, ⟨8, fun u_ _ => u_ = .slice (some ⟨g1, 32, none⟩) 32 32, [], none, false⟩] [0, 0, 3] [0, 1] grow_st grow_st (by kernel_rfl) (by kernel_rfl) (by kernel_rfl) H ⟨⟨fun a W  H => by exact ob_val H (wanted_none rfl) (does_slice rfl rfl (vl := none) (vh := none) rfl rfl (sl_key g3)), val_grow, fun _ => val_grow⟩, ⟨fun a W  H => by exact ob_val H (wanted_none rfl) (does_slice rfl rfl (vl := some (.int .i64 32)) (vh := none) rfl rfl (sl_hi g1)), val_grow, fun _ => val_grow⟩, trivial⟩ (by kernel_rfl) ?_
  try clear H a W
  intro a W
  rintro _ rfl
  rintro _ rfl
  intro H
  replace H : St 12 w a W [(8, .slice (some ⟨g1, 32, none⟩) 32 32), (7, .slice (some ⟨g3, 0, none⟩) 32 32), (3, .pointer (some ⟨g3, 0, none⟩)), (2, .pointer (some ⟨g2, 0, none⟩)), (1, .pointer (some ⟨g1, 0, none⟩))] [(g3, 23, ks 0), (g2, 23, ks (n % 115792089237316195423570985008687907853269984665640564039457584007913129639936)), (g1, 27, Scl.ls n)] := H
  refine pl_copy rfl Tryd.underlying24 size_u8b rfl rfl (k := 0) rfl (k2 := 2) rfl (m := 32) rfl (by simp only [ks_size, Scl.ls_size] <;> omega) (by simp only [ks_size, Scl.ls_size] <;> omega) (ls_one _) (splice_hi _ _) rfl rfl rfl rfl H ?_
  try clear H a W
  intro a W H
  replace H : St 12 w a W [(9, .int .i64 ((32 : Nat) : Int)), (8, .slice (some ⟨g1, 32, none⟩) 32 32), (7, .slice (some ⟨g3, 0, none⟩) 32 32), (3, .pointer (some ⟨g3, 0, none⟩)), (2, .pointer (some ⟨g2, 0, none⟩)), (1, .pointer (some ⟨g1, 0, none⟩))] [(g3, 23, ks (n / 115792089237316195423570985008687907853269984665640564039457584007913129639936)), (g2, 23, ks (n % 115792089237316195423570985008687907853269984665640564039457584007913129639936)), (g1, 27, Scl.ls n)] := H
  refine pl_end ?_
  replace H : St 12 w a W [(3, .pointer (some ⟨g3, 0, none⟩)), (2, .pointer (some ⟨g2, 0, none⟩))] [(g3, 23, ks (n / 115792089237316195423570985008687907853269984665640564039457584007913129639936)), (g2, 23, ks (n % 115792089237316195423570985008687907853269984665640564039457584007913129639936))] := H.pick [3, 4] [0, 1] rfl
  refine hK3 _ _ ?_
  clear hK3
  refine wp_seq_k (fun K4 hK4 => ?_)
  refine rg_plain ?_
  refine pl_V (F := fun u_ _ => u_ = .agg (ks (n % 115792089237316195423570985008687907853269984665640564039457584007913129639936))) (ob_val H (wanted_none rfl) (does_load rfl rfl (k := 1) rfl Tryd.underlying23 rfl (info_ks _))) rfl rfl rfl H ?_
  try clear H a W
  rintro _ a W rfl H
  replace H : St 12 w a W [(10, .agg (ks (n % 115792089237316195423570985008687907853269984665640564039457584007913129639936))), (3, .pointer (some ⟨g3, 0, none⟩)), (2, .pointer (some ⟨g2, 0, none⟩))] [(g3, 23, ks (n / 115792089237316195423570985008687907853269984665640564039457584007913129639936)), (g2, 23, ks (n % 115792089237316195423570985008687907853269984665640564039457584007913129639936))] := H
  refine pl_V (F := fun u_ _ => u_ = .agg (ks (n / 115792089237316195423570985008687907853269984665640564039457584007913129639936))) (ob_val H (wanted_none rfl) (does_load rfl rfl (k := 0) rfl Tryd.underlying23 rfl (info_ks _))) rfl rfl rfl H ?_
  try clear H a W
  rintro _ a W rfl H
  replace H : St 12 w a W [(11, .agg (ks (n / 115792089237316195423570985008687907853269984665640564039457584007913129639936))), (10, .agg (ks (n % 115792089237316195423570985008687907853269984665640564039457584007913129639936))), (3, .pointer (some ⟨g3, 0, none⟩)), (2, .pointer (some ⟨g2, 0, none⟩))] [(g3, 23, ks (n / 115792089237316195423570985008687907853269984665640564039457584007913129639936)), (g2, 23, ks (n % 115792089237316195423570985008687907853269984665640564039457584007913129639936))] := H
  refine pl_store rfl rfl rfl (k := 1) rfl (info_ks _) (by simp only [sv_size, ev_size, ks_size, Scl.ls_size] <;> rfl) (ks_one _) rfl rfl H ?_
  try clear H a W
  intro a W H
  refine pl_store rfl rfl rfl (k := 0) rfl (info_ks _) (by simp only [sv_size, ev_size, ks_size, Scl.ls_size] <;> rfl) (ks_one _) rfl rfl H ?_
  try clear H a W
  intro a W H
  refine pl_end ?_
  replace H : St 12 w a W [(3, .pointer (some ⟨g3, 0, none⟩)), (2, .pointer (some ⟨g2, 0, none⟩))] [(g3, 23, ks (n / 115792089237316195423570985008687907853269984665640564039457584007913129639936)), (g2, 23, ks (n % 115792089237316195423570985008687907853269984665640564039457584007913129639936))] := H.pick [2, 3] [0, 1] rfl
  refine hK4 _ _ ?_
  clear hK4
  refine wp_ret ?_
  repeat (first | (with_reducible refine then_ret ?_) | (with_reducible refine blk_ret ?_))
  refine end_cells (p := 2) (q := 3) rfl rfl (k := 1) rfl Tryd.underlying23 rfl (info_ks _) rfl (k2 := 0) rfl Tryd.underlying23 rfl (info_ks _) H (fun hb => ?_)
  exact ⟨rfl, hb⟩
set_option maxHeartbeats 4000000 in
theorem joined_any {x y : Nat} (hx : x < 115792089237316195423570985008687907853269984665640564039457584007913129639936) (w : World) (hgl : GL w) : Calls Tryd.prog 13 #[.agg (ks x), .agg (ks y)] w (fun rr w' => rr = .returned (.agg (Scl.ls (x + 115792089237316195423570985008687907853269984665640564039457584007913129639936 * y))) ∧ Below w.heap.size w w') := by
  refine calls_st (vs := [.agg (ks x), .agg (ks y)]) 13 Tryd.func13 rfl Tryd.ntmps13 rfl (fun a W H => ?_)
  replace H : St 13 w a W [(0, .agg (ks x)), (1, .agg (ks y))] [] := H
  refine wp_seq_k (fun K1 hK1 => ?_)
  refine rg_plain ?_
  refine pl_box rfl rfl (bx_key x) rfl rfl rfl rfl H ?_
  try clear H a W
  intro g1 a W H
  refine pl_box rfl rfl (bx_key y) rfl rfl rfl rfl H ?_
  try clear H a W
  intro g2 a W H
  refine pl_new (news_of rfl al_long) rfl rfl rfl rfl H ?_
  try clear H a W
  intro g3 a W H
  refine pl_end ?_
  replace H : St 13 w a W [(4, .pointer (some ⟨g3, 0, none⟩)), (3, .pointer (some ⟨g2, 0, none⟩)), (2, .pointer (some ⟨g1, 0, none⟩))] [(g3, 27, Scl.ls 0), (g2, 23, ks y), (g1, 23, ks x)] := H.pick [0, 1, 2] [0, 1, 2] rfl
  refine hK1 _ _ ?_
  clear hK1
  refine wp_seq_k (fun K2 hK2 => ?_)
  refine rg_plain ?_
  refine pl_new (news_of rfl al_long) rfl rfl rfl rfl H ?_
  try clear H a W
  intro g4 a W H
  refine pl_end ?_
  refine hK2 _ _ ?_
  clear hK2
  refine wp_seq_k (fun K3 hK3 => ?_)
  refine drawnR (Grow w.heap.size [(g4, 27, Scl.ls 0), (g3, 27, Scl.ls 0), (g2, 23, ks y), (g1, 23, ks x)]) (Grow w.heap.size [(g4, 27, Scl.ls 0), (g3, 27, Scl.ls 0), (g2, 23, ks y), (g1, 23, ks x)]) [⟨6, fun u_ _ => u_ = .slice (some ⟨g4, 0, none⟩) 32 64, [], none, false⟩, ⟨7, fun u_ _ => u_ = .slice (some ⟨g1, 0, none⟩) 32 32, [], none, false⟩] [0, 0, 3] [0, 1] grow_st grow_st (by kernel_rfl) (by kernel_rfl) (by kernel_rfl) H ⟨⟨fun a W  H => by exact ob_val H (wanted_none rfl) (does_slice rfl rfl (vl := none) (vh := some (.int .i64 32)) rfl rfl (sl_lo g4)), val_grow, fun _ => val_grow⟩, ⟨fun a W  H => by exact ob_val H (wanted_none rfl) (does_slice rfl rfl (vl := none) (vh := none) rfl rfl (sl_key g1)), val_grow, fun _ => val_grow⟩, trivial⟩ (by kernel_rfl) ?_
  try clear H a W
  intro a W
  rintro _ rfl
  rintro _ rfl
  intro H
  replace H : St 13 w a W [(7, .slice (some ⟨g1, 0, none⟩) 32 32), (6, .slice (some ⟨g4, 0, none⟩) 32 64), (5, .pointer (some ⟨g4, 0, none⟩)), (4, .pointer (some ⟨g3, 0, none⟩)), (3, .pointer (some ⟨g2, 0, none⟩)), (2, .pointer (some ⟨g1, 0, none⟩))] [(g4, 27, Scl.ls 0), (g3, 27, Scl.ls 0), (g2, 23, ks y), (g1, 23, ks x)] := H
  refine pl_copy rfl Tryd.underlying24 size_u8b rfl rfl (k := 0) rfl (k2 := 3) rfl (m := 32) rfl (by simp only [ks_size, Scl.ls_size] <;> omega) (by simp only [ks_size, Scl.ls_size] <;> omega) (ks_one _) (join1 hx) rfl rfl rfl rfl H ?_
  try clear H a W
  intro a W H
  replace H : St 13 w a W [(8, .int .i64 ((32 : Nat) : Int)), (7, .slice (some ⟨g1, 0, none⟩) 32 32), (6, .slice (some ⟨g4, 0, none⟩) 32 64), (5, .pointer (some ⟨g4, 0, none⟩)), (4, .pointer (some ⟨g3, 0, none⟩)), (3, .pointer (some ⟨g2, 0, none⟩)), (2, .pointer (some ⟨g1, 0, none⟩))] [(g4, 27, Scl.ls x), (g3, 27, Scl.ls 0), (g2, 23, ks y), (g1, 23, ks x)] := H
  refine pl_end ?_
  replace H : St 13 w a W [(5, .pointer (some ⟨g4, 0, none⟩)), (4, .pointer (some ⟨g3, 0, none⟩)), (3, .pointer (some ⟨g2, 0, none⟩))] [(g4, 27, Scl.ls x), (g3, 27, Scl.ls 0), (g2, 23, ks y)] := H.pick [3, 4, 5] [0, 1, 2] rfl
  refine hK3 _ _ ?_
  clear hK3
  refine wp_seq_k (fun K4 hK4 => ?_)
  refine drawnR (Grow w.heap.size [(g4, 27, Scl.ls x), (g3, 27, Scl.ls 0), (g2, 23, ks y)]) (Grow w.heap.size [(g4, 27, Scl.ls x), (g3, 27, Scl.ls 0), (g2, 23, ks y)]) [⟨9, fun u_ _ => u_ = .slice (some ⟨g4, 32, none⟩) 32 32, [], none, false⟩, ⟨10, fun u_ _ => u_ = .slice (some ⟨g2, 0, none⟩) 32 32, [], none, false⟩] [0, 0, 3] [0, 1] grow_st grow_st (by kernel_rfl) (by kernel_rfl) (by kernel_rfl) H ⟨⟨fun a W  H => by exact ob_val H (wanted_none rfl) (does_slice rfl rfl (vl := some (.int .i64 32)) (vh := none) rfl rfl (sl_hi g4)), val_grow, fun _ => val_grow⟩, ⟨fun a W  H => by exact ob_val H (wanted_none rfl) (does_slice rfl rfl (vl := none) (vh := none) rfl rfl (sl_key g2)), val_grow, fun _ => val_grow⟩, trivial⟩ (by kernel_rfl) ?_
  try clear H a W
  intro a W
  rintro _ rfl
  rintro _ rfl
  intro H
  replace H : St 13 w a W [(10, .slice (some ⟨g2, 0, none⟩) 32 32), (9, .slice (some ⟨g4, 32, none⟩) 32 32), (5, .pointer (some ⟨g4, 0, none⟩)), (4, .pointer (some ⟨g3, 0, none⟩)), (3, .pointer (some ⟨g2, 0, none⟩))] [(g4, 27, Scl.ls x), (g3, 27, Scl.ls 0), (g2, 23, ks y)] := H
  refine pl_copy rfl Tryd.underlying24 size_u8b rfl rfl (k := 0) rfl (k2 := 2) rfl (m := 32) rfl (by simp only [ks_size, Scl.ls_size] <;> omega) (by simp only [ks_size, Scl.ls_size] <;> omega) (ks_one _) (join2 hx) rfl rfl rfl rfl H ?_
  try clear H a W
  intro a W H
  replace H : St 13 w a W [(11, .int .i64 ((32 : Nat) : Int)), (10, .slice (some ⟨g2, 0, none⟩) 32 32), (9, .slice (some ⟨g4, 32, none⟩) 32 32), (5, .pointer (some ⟨g4, 0, none⟩)), (4, .pointer (some ⟨g3, 0, none⟩)), (3, .pointer (some ⟨g2, 0, none⟩))] [(g4, 27, Scl.ls (x + 115792089237316195423570985008687907853269984665640564039457584007913129639936 * y)), (g3, 27, Scl.ls 0), (g2, 23, ks y)] := H
  refine pl_end ?_
  replace H : St 13 w a W [(5, .pointer (some ⟨g4, 0, none⟩)), (4, .pointer (some ⟨g3, 0, none⟩))] [(g4, 27, Scl.ls (x + 115792089237316195423570985008687907853269984665640564039457584007913129639936 * y)), (g3, 27, Scl.ls 0)] := H.pick [3, 4] [0, 1] rfl
  refine hK4 _ _ ?_
  clear hK4
  refine wp_seq_k (fun K5 hK5 => ?_)
  refine rg_plain ?_
  refine pl_V (F := fun u_ _ => u_ = .agg (Scl.ls (x + 115792089237316195423570985008687907853269984665640564039457584007913129639936 * y))) (ob_val H (wanted_none rfl) (does_load rfl rfl (k := 0) rfl Tryd.underlying27 rfl (info_ls _))) rfl rfl rfl H ?_
  try clear H a W
  rintro _ a W rfl H
  replace H : St 13 w a W [(12, .agg (Scl.ls (x + 115792089237316195423570985008687907853269984665640564039457584007913129639936 * y))), (5, .pointer (some ⟨g4, 0, none⟩)), (4, .pointer (some ⟨g3, 0, none⟩))] [(g4, 27, Scl.ls (x + 115792089237316195423570985008687907853269984665640564039457584007913129639936 * y)), (g3, 27, Scl.ls 0)] := H
  refine pl_store rfl rfl rfl (k := 1) rfl (info_ls _) (by simp only [sv_size, ev_size, ks_size, Scl.ls_size] <;> rfl) (ls_one _) rfl rfl H ?_
  try clear H a W
  intro a W H
  refine pl_end ?_
  replace H : St 13 w a W [(4, .pointer (some ⟨g3, 0, none⟩))] [(g3, 27, Scl.ls (x + 115792089237316195423570985008687907853269984665640564039457584007913129639936 * y))] := H.pick [2] [1] rfl
  refine hK5 _ _ ?_
  clear hK5
  refine wp_ret ?_
  repeat (first | (with_reducible refine then_ret ?_) | (with_reducible refine blk_ret ?_))
  refine end_cell (p := 4) rfl rfl (k := 0) rfl Tryd.underlying27 rfl (info_ls _) H (fun hb => ?_)
  exact ⟨rfl, hb⟩
theorem halves_z {n x y : Nat} (hx : x = n % 115792089237316195423570985008687907853269984665640564039457584007913129639936) (hy : y = n / 115792089237316195423570985008687907853269984665640564039457584007913129639936) (w : World) (hgl : GL w) : Calls Tryd.prog 15 #[.agg (Scl.ls n)] w (fun rr w' => rr = .returned (.tuple #[.agg (ks x), .agg (ks y)]) ∧ Below w.heap.size w w') := by
  subst hx hy; exact halves_any n w hgl
theorem joined_z {x y n : Nat} (hn : n = x + 115792089237316195423570985008687907853269984665640564039457584007913129639936 * y) (hx : x < 115792089237316195423570985008687907853269984665640564039457584007913129639936) (w : World) (hgl : GL w) : Calls Tryd.prog 13 #[.agg (ks x), .agg (ks y)] w (fun rr w' => rr = .returned (.agg (Scl.ls n)) ∧ Below w.heap.size w w') := by
  subst hn; exact joined_any hx w hgl
set_option maxHeartbeats 4000000 in
theorem number_any {v : Value} {M : List (List UInt8)} {l : List UInt8} (w : World) (hv : RF M v w) (hl : M.flatten = l) (h1 : l.length < 1000000) (h2 : M.length < 100000) (hgl : GL w) : Calls Tryd.prog 11 #[v] w (fun rr w' => rr = .returned (.agg (ks (num l))) ∧ Below w.heap.size w w') := by
  refine calls_st (vs := [v]) 6 Tryd.func11 rfl Tryd.ntmps11 rfl (fun a W H => ?_)
  replace H : St 6 w a W [(0, v)] [] := H
  refine wp_seq_k (fun K1 hK1 => ?_)
  refine rg_plain ?_
  refine pl_new (news_of rfl al_key0) rfl rfl rfl rfl H ?_
  try clear H a W
  intro g1 a W H
  refine pl_end ?_
  refine hK1 _ _ ?_
  clear hK1
  refine wp_seq_k (fun K2 hK2 => ?_)
  refine rg_plain ?_
  refine pl_V (F := fun u_ _ => u_ = v) (ob_val H (wanted_none rfl) (does_move rfl rfl)) rfl rfl rfl H ?_
  try clear H a W
  intro y_ a W hy_ H
  replace hy_ := hy_.symm
  subst hy_
  replace H : St 6 w a W [(3, v), (2, .pointer (some ⟨g1, 0, none⟩)), (0, v)] [(g1, 23, ks 0)] := H
  refine pl_V (F := fun u_ _ => u_ = .agg (Scl.ls (hN l))) (ob_cal H (wanted_none rfl) rfl ⟨_, Tryd.func21, by kernel_rfl⟩ rfl (sumF (hgl.ext H.below) (rf_old hv H) hl h1 h2)) rfl rfl rfl H ?_
  try clear H a W
  rintro _ a W rfl H
  replace H : St 6 w a W [(4, .agg (Scl.ls (hN l))), (3, v), (2, .pointer (some ⟨g1, 0, none⟩)), (0, v)] [(g1, 23, ks 0)] := H
  refine pl_V (F := fun u_ _ => u_ = .agg (ks (num l))) (ob_cal H (wanted_none rfl) rfl ⟨_, Tryd.func27, by kernel_rfl⟩ rfl (reduceF (num_def l) (hgl.ext H.below) (hN_lt l))) rfl rfl rfl H ?_
  try clear H a W
  rintro _ a W rfl H
  replace H : St 6 w a W [(5, .agg (ks (num l))), (4, .agg (Scl.ls (hN l))), (3, v), (2, .pointer (some ⟨g1, 0, none⟩)), (0, v)] [(g1, 23, ks 0)] := H
  refine pl_store rfl rfl rfl (k := 0) rfl (info_ks _) (by simp only [sv_size, ev_size, ks_size, Scl.ls_size] <;> rfl) (ks_one _) rfl rfl H ?_
  try clear H a W
  intro a W H
  refine pl_end ?_
  replace H : St 6 w a W [(2, .pointer (some ⟨g1, 0, none⟩))] [(g1, 23, ks (num l))] := H.pick [3] [0] rfl
  refine hK2 _ _ ?_
  clear hK2
  refine wp_ret ?_
  repeat (first | (with_reducible refine then_ret ?_) | (with_reducible refine blk_ret ?_))
  refine end_cell (p := 2) rfl rfl (k := 0) rfl Tryd.underlying23 rfl (info_ks _) H (fun hb => ?_)
  exact ⟨rfl, hb⟩
theorem number_z {v : Value} {M : List (List UInt8)} {l : List UInt8} {m : Nat} (hm : m = num l) (w : World) (hv : RF M v w) (hl : M.flatten = l) (h1 : l.length < 1000000) (h2 : M.length < 100000) (hgl : GL w) : Calls Tryd.prog 11 #[v] w (fun rr w' => rr = .returned (.agg (ks m)) ∧ Below w.heap.size w w') := by
  subst hm; exact number_any w hv hl h1 h2 hgl
set_option maxHeartbeats 4000000 in
theorem secrets_any (x : Nat) (w : World) (hgl : GL w) : Calls Tryd.prog 8 #[.agg (ks x)] w (fun rr w' => rr = .returned (.tuple #[.agg (ks (seedA x)), .agg (ks (seedP x))]) ∧ Below w.heap.size w w') := by
  refine calls_st (vs := [.agg (ks x)]) 16 Tryd.func8 rfl Tryd.ntmps8 rfl (fun a W H => ?_)
  replace H : St 16 w a W [(0, .agg (ks x))] [] := H
  refine wp_seq_k (fun K1 hK1 => ?_)
  refine rg_plain ?_
  refine pl_box rfl rfl (bx_key x) rfl rfl rfl rfl H ?_
  try clear H a W
  intro g1 a W H
  refine pl_new (news_of rfl al_key0) rfl rfl rfl rfl H ?_
  try clear H a W
  intro g2 a W H
  refine pl_new (news_of rfl al_key0) rfl rfl rfl rfl H ?_
  try clear H a W
  intro g3 a W H
  refine pl_end ?_
  replace H : St 16 w a W [(3, .pointer (some ⟨g3, 0, none⟩)), (2, .pointer (some ⟨g2, 0, none⟩)), (1, .pointer (some ⟨g1, 0, none⟩))] [(g3, 23, ks 0), (g2, 23, ks 0), (g1, 23, ks x)] := H.pick [0, 1, 2] [0, 1, 2] rfl
  refine hK1 _ _ ?_
  clear hK1
  refine wp_seq_k (fun K2 hK2 => ?_)
  refine rg_plain ?_
  refine pl_V (F := fun u_ _ => u_ = .slice (some ⟨g1, 0, none⟩) 32 32) (ob_val H (wanted_none rfl) (does_slice rfl rfl (vl := none) (vh := none) rfl rfl (sl_key g1))) rfl rfl rfl H ?_
  try clear H a W
  rintro _ a W rfl H
  replace H : St 16 w a W [(7, .slice (some ⟨g1, 0, none⟩) 32 32), (3, .pointer (some ⟨g3, 0, none⟩)), (2, .pointer (some ⟨g2, 0, none⟩)), (1, .pointer (some ⟨g1, 0, none⟩))] [(g3, 23, ks 0), (g2, 23, ks 0), (g1, 23, ks x)] := H
  refine pl_V (F := LF [(kby x)]) (ob_rows1 H (wanted_none rfl) rfl rfl (bf_key (H.blk (k := 2) rfl))) rfl rfl rfl H ?_
  try clear H a W
  intro v8 a W hv8 H
  replace H : St 16 w a W [(8, v8), (7, .slice (some ⟨g1, 0, none⟩) 32 32), (3, .pointer (some ⟨g3, 0, none⟩)), (2, .pointer (some ⟨g2, 0, none⟩)), (1, .pointer (some ⟨g1, 0, none⟩))] [(g3, 23, ks 0), (g2, 23, ks 0), (g1, 23, ks x)] := H
  refine pl_F (F := fun u_ _ => u_ = .agg (Scl.ls (hN (kby x)))) (ob_cal H (wanted_none rfl) rfl ⟨_, Tryd.func21, by kernel_rfl⟩ rfl (sumF (hgl.ext H.below) hv8.rf (by simp) (by rw [kby_len]; omega) (by simp) )) rfl rfl rfl H ?_
  rintro _ a W rfl hb H
  replace hv8 := LF.grow _ _ _ hv8 hb
  replace H : St 16 w a W [(9, .agg (Scl.ls (hN (kby x)))), (8, v8), (7, .slice (some ⟨g1, 0, none⟩) 32 32), (3, .pointer (some ⟨g3, 0, none⟩)), (2, .pointer (some ⟨g2, 0, none⟩)), (1, .pointer (some ⟨g1, 0, none⟩))] [(g3, 23, ks 0), (g2, 23, ks 0), (g1, 23, ks x)] := H
  refine pl_F (F := fun u_ _ => u_ = .tuple #[.agg (ks ((hN (kby x)) % 115792089237316195423570985008687907853269984665640564039457584007913129639936)), .agg (ks (seedP x))]) (ob_cal H (wanted_none rfl) rfl ⟨_, Tryd.func15, by kernel_rfl⟩ rfl (halves_z rfl (seedP_def x) W (hgl.ext H.below))) rfl rfl rfl H ?_
  rintro _ a W rfl hb H
  replace hv8 := LF.grow _ _ _ hv8 hb
  replace H : St 16 w a W [(10, .tuple #[.agg (ks ((hN (kby x)) % 115792089237316195423570985008687907853269984665640564039457584007913129639936)), .agg (ks (seedP x))]), (9, .agg (Scl.ls (hN (kby x)))), (8, v8), (7, .slice (some ⟨g1, 0, none⟩) 32 32), (3, .pointer (some ⟨g3, 0, none⟩)), (2, .pointer (some ⟨g2, 0, none⟩)), (1, .pointer (some ⟨g1, 0, none⟩))] [(g3, 23, ks 0), (g2, 23, ks 0), (g1, 23, ks x)] := H
  refine pl_F (F := fun u_ _ => u_ = .tuple #[.agg (ks ((hN (kby x)) % 115792089237316195423570985008687907853269984665640564039457584007913129639936)), .agg (ks (seedP x))]) (ob_val H (wanted_none rfl) (does_move rfl rfl)) rfl rfl rfl H ?_
  rintro _ a W rfl hb H
  replace hv8 := LF.grow _ _ _ hv8 hb
  replace H : St 16 w a W [(6, .tuple #[.agg (ks ((hN (kby x)) % 115792089237316195423570985008687907853269984665640564039457584007913129639936)), .agg (ks (seedP x))]), (10, .tuple #[.agg (ks ((hN (kby x)) % 115792089237316195423570985008687907853269984665640564039457584007913129639936)), .agg (ks (seedP x))]), (9, .agg (Scl.ls (hN (kby x)))), (8, v8), (7, .slice (some ⟨g1, 0, none⟩) 32 32), (3, .pointer (some ⟨g3, 0, none⟩)), (2, .pointer (some ⟨g2, 0, none⟩)), (1, .pointer (some ⟨g1, 0, none⟩))] [(g3, 23, ks 0), (g2, 23, ks 0), (g1, 23, ks x)] := H
  refine pl_F (F := fun u_ _ => u_ = .agg (ks ((hN (kby x)) % 115792089237316195423570985008687907853269984665640564039457584007913129639936))) (ob_val H (wanted_none rfl) (does_extract rfl rfl (fun _ => rfl))) rfl rfl rfl H ?_
  rintro _ a W rfl hb H
  replace hv8 := LF.grow _ _ _ hv8 hb
  replace H : St 16 w a W [(11, .agg (ks ((hN (kby x)) % 115792089237316195423570985008687907853269984665640564039457584007913129639936))), (6, .tuple #[.agg (ks ((hN (kby x)) % 115792089237316195423570985008687907853269984665640564039457584007913129639936)), .agg (ks (seedP x))]), (10, .tuple #[.agg (ks ((hN (kby x)) % 115792089237316195423570985008687907853269984665640564039457584007913129639936)), .agg (ks (seedP x))]), (9, .agg (Scl.ls (hN (kby x)))), (8, v8), (7, .slice (some ⟨g1, 0, none⟩) 32 32), (3, .pointer (some ⟨g3, 0, none⟩)), (2, .pointer (some ⟨g2, 0, none⟩)), (1, .pointer (some ⟨g1, 0, none⟩))] [(g3, 23, ks 0), (g2, 23, ks 0), (g1, 23, ks x)] := H
  refine pl_F (F := fun u_ _ => u_ = .agg (ks (seedP x))) (ob_val H (wanted_none rfl) (does_extract rfl rfl (fun _ => rfl))) rfl rfl rfl H ?_
  rintro _ a W rfl hb H
  replace hv8 := LF.grow _ _ _ hv8 hb
  replace H : St 16 w a W [(12, .agg (ks (seedP x))), (11, .agg (ks ((hN (kby x)) % 115792089237316195423570985008687907853269984665640564039457584007913129639936))), (6, .tuple #[.agg (ks ((hN (kby x)) % 115792089237316195423570985008687907853269984665640564039457584007913129639936)), .agg (ks (seedP x))]), (10, .tuple #[.agg (ks ((hN (kby x)) % 115792089237316195423570985008687907853269984665640564039457584007913129639936)), .agg (ks (seedP x))]), (9, .agg (Scl.ls (hN (kby x)))), (8, v8), (7, .slice (some ⟨g1, 0, none⟩) 32 32), (3, .pointer (some ⟨g3, 0, none⟩)), (2, .pointer (some ⟨g2, 0, none⟩)), (1, .pointer (some ⟨g1, 0, none⟩))] [(g3, 23, ks 0), (g2, 23, ks 0), (g1, 23, ks x)] := H
  replace H : St 16 w a W [(12, .agg (ks (seedP x))), (11, .agg (ks ((hN (kby x)) % 115792089237316195423570985008687907853269984665640564039457584007913129639936))), (6, .tuple #[.agg (ks ((hN (kby x)) % 115792089237316195423570985008687907853269984665640564039457584007913129639936)), .agg (ks (seedP x))]), (10, .tuple #[.agg (ks ((hN (kby x)) % 115792089237316195423570985008687907853269984665640564039457584007913129639936)), .agg (ks (seedP x))]), (9, .agg (Scl.ls (hN (kby x)))), (7, .slice (some ⟨g1, 0, none⟩) 32 32), (3, .pointer (some ⟨g3, 0, none⟩)), (2, .pointer (some ⟨g2, 0, none⟩)), (1, .pointer (some ⟨g1, 0, none⟩))] [(g3, 23, ks 0), (g2, 23, ks 0), (g1, 23, ks x)] := H.pick [0, 1, 2, 3, 4, 6, 7, 8, 9] [0, 1, 2] rfl
  refine pl_new (news_of rfl al_key0) rfl rfl rfl rfl H ?_
  try clear H a W
  intro g4 a W H
  refine pl_new (news_of rfl al_key0) rfl rfl rfl rfl H ?_
  try clear H a W
  intro g5 a W H
  refine pl_store rfl rfl rfl (k := 1) rfl (info_ks _) (by simp only [sv_size, ev_size, ks_size, Scl.ls_size] <;> rfl) (ks_one _) rfl rfl H ?_
  try clear H a W
  intro a W H
  refine pl_store rfl rfl rfl (k := 0) rfl (info_ks _) (by simp only [sv_size, ev_size, ks_size, Scl.ls_size] <;> rfl) (ks_one _) rfl rfl H ?_
  try clear H a W
  intro a W H
  refine pl_end ?_
  replace H : St 16 w a W [(5, .pointer (some ⟨g5, 0, none⟩)), (4, .pointer (some ⟨g4, 0, none⟩)), (3, .pointer (some ⟨g3, 0, none⟩)), (2, .pointer (some ⟨g2, 0, none⟩))] [(g5, 23, ks (seedP x)), (g4, 23, ks ((hN (kby x)) % 115792089237316195423570985008687907853269984665640564039457584007913129639936)), (g3, 23, ks 0), (g2, 23, ks 0)] := H.pick [0, 1, 8, 9] [0, 1, 2, 3] rfl
  refine hK2 _ _ ?_
  clear hK2
  refine wp_seq_k (fun K3 hK3 => ?_)
  refine drawnS [.val 13 (.agg (ks ((hN (kby x)) % 115792089237316195423570985008687907853269984665640564039457584007913129639936))) [] [1], .val 14 (.agg (ks (seedA x))) [0] [], .val 15 (.agg (ks (seedP x))) [] [0], .sto 3 g2 23 (ks 0) (ks (seedA x)) [1], .sto 2 g3 23 (ks 0) (ks (seedP x)) [2]] [0, 1, 0, 3, 15] (by kernel_rfl) (by kernel_rfl) (by kernel_rfl) H ⟨⟨does_load rfl rfl (k := 0) rfl Tryd.underlying23 rfl (info_ks _), wanted_none rfl⟩, ⟨does_call rfl ⟨_, Tryd.func22, by kernel_rfl⟩ rfl (fun W hb => clampF (seedA_def x) W), wanted_none rfl⟩, ⟨does_load rfl rfl (k := 0) rfl Tryd.underlying23 rfl (info_ks _), wanted_none rfl⟩, ⟨rfl, rfl, sto_row rfl rfl rfl (info_ks _) (by simp only [sv_size, ev_size, ks_size, Scl.ls_size] <;> rfl) (ks_one _)⟩, ⟨rfl, rfl, sto_row rfl rfl rfl (info_ks _) (by simp only [sv_size, ev_size, ks_size, Scl.ls_size] <;> rfl) (ks_one _)⟩, trivial⟩ ?_
  try clear H a W
  intro G6 a W H
  replace H : St 16 w a W [(13, .agg (ks ((hN (kby x)) % 115792089237316195423570985008687907853269984665640564039457584007913129639936))), (14, .agg (ks (seedA x))), (15, .agg (ks (seedP x))), (5, .pointer (some ⟨g5, 0, none⟩)), (4, .pointer (some ⟨g4, 0, none⟩)), (3, .pointer (some ⟨g3, 0, none⟩)), (2, .pointer (some ⟨g2, 0, none⟩))] [(g5, 23, ks (seedP x)), (g4, 23, ks ((hN (kby x)) % 115792089237316195423570985008687907853269984665640564039457584007913129639936)), (g3, 23, ks (seedP x)), (g2, 23, ks (seedA x))] := H
  replace H : St 16 w a W [(3, .pointer (some ⟨g3, 0, none⟩)), (2, .pointer (some ⟨g2, 0, none⟩))] [(g3, 23, ks (seedP x)), (g2, 23, ks (seedA x))] := H.pick [5, 6] [2, 3] rfl
  refine hK3 _ _ ?_
  clear hK3
  refine wp_ret ?_
  repeat (first | (with_reducible refine then_ret ?_) | (with_reducible refine blk_ret ?_))
  refine end_cells (p := 2) (q := 3) rfl rfl (k := 1) rfl Tryd.underlying23 rfl (info_ks _) rfl (k2 := 0) rfl Tryd.underlying23 rfl (info_ks _) H (fun hb => ?_)
  exact ⟨rfl, hb⟩
set_option maxHeartbeats 4000000 in
theorem bound_any {v : Value} {x y : Nat} {M : List (List UInt8)} {l : List UInt8} (w : World) (hv : RF M v w) (hl : M.flatten = l) (hfit : Fit M) (hgl : GL w) : Calls Tryd.prog 12 #[.agg (ks x), .agg (ks y), v] w (fun rr w' => rr = .returned (.agg (ks (sigH x y l))) ∧ Below w.heap.size w w') := by
  refine calls_st (vs := [.agg (ks x), .agg (ks y), v]) 13 Tryd.func12 rfl Tryd.ntmps12 rfl (fun a W H => ?_)
  replace H : St 13 w a W [(0, .agg (ks x)), (1, .agg (ks y)), (2, v)] [] := H
  refine wp_seq_k (fun K1 hK1 => ?_)
  refine rg_plain ?_
  refine pl_box rfl rfl (bx_key x) rfl rfl rfl rfl H ?_
  try clear H a W
  intro g1 a W H
  refine pl_box rfl rfl (bx_key y) rfl rfl rfl rfl H ?_
  try clear H a W
  intro g2 a W H
  refine pl_new (news_of rfl al_key0) rfl rfl rfl rfl H ?_
  try clear H a W
  intro g3 a W H
  refine pl_end ?_
  replace H : St 13 w a W [(6, .pointer (some ⟨g3, 0, none⟩)), (4, .pointer (some ⟨g2, 0, none⟩)), (3, .pointer (some ⟨g1, 0, none⟩)), (2, v)] [(g3, 23, ks 0), (g2, 23, ks y), (g1, 23, ks x)] := H.pick [0, 1, 2, 5] [0, 1, 2] rfl
  refine hK1 _ _ ?_
  clear hK1
  refine wp_seq_k (fun K2 hK2 => ?_)
  refine drawnR (Grow w.heap.size [(g3, 23, ks 0), (g2, 23, ks y), (g1, 23, ks x)]) (Grow w.heap.size [(g3, 23, ks 0), (g2, 23, ks y), (g1, 23, ks x)]) [⟨7, fun u_ _ => u_ = .slice (some ⟨g1, 0, none⟩) 32 32, [], none, false⟩, ⟨8, fun u_ _ => u_ = .slice (some ⟨g2, 0, none⟩) 32 32, [], none, false⟩, ⟨9, LF [(kby x), (kby y)], [0, 1], none, false⟩, ⟨10, fun u_ _ => u_ = v, [], none, false⟩, ⟨11, RF ([(kby x), (kby y)] ++ M), [2, 3], none, false⟩, ⟨12, fun u_ _ => u_ = .agg (ks (sigH x y l)), [4], none, false⟩] [0, 0, 3, 0, 12, 16, 63] [5] grow_st grow_st (by kernel_rfl) (by kernel_rfl) (by kernel_rfl) H ⟨⟨fun a W  H => by exact ob_val H (wanted_none rfl) (does_slice rfl rfl (vl := none) (vh := none) rfl rfl (sl_key g1)), val_grow, fun _ => val_grow⟩, ⟨fun a W  H => by exact ob_val H (wanted_none rfl) (does_slice rfl rfl (vl := none) (vh := none) rfl rfl (sl_key g2)), val_grow, fun _ => val_grow⟩, ⟨fun a W y0 hy0 y1 hy1 H => by subst hy0; subst hy1; exact ob_rows2 H (wanted_none rfl) rfl rfl rfl (bf_key (H.blk (k := 2) rfl)) (bf_key (H.blk (k := 1) rfl)), LF.grow, fun _ => LF.grow⟩, ⟨fun a W  H => by exact ob_val H (wanted_none rfl) (does_move rfl rfl), val_grow, fun _ => val_grow⟩, ⟨fun a W v9 hv9 y3 hy3 H => by have e_ := hy3.symm; subst e_; exact ob_append H (wanted_none rfl) rfl rfl rfl hv9 (rf_old hv H) (by simp only [List.length_cons, List.length_nil]; have := hfit.num; omega), RF.grow, fun _ => RF.grow⟩, ⟨fun a W v11 hv11 H => by exact ob_cal H (wanted_none rfl) rfl ⟨_, Tryd.func11, by kernel_rfl⟩ rfl (number_z (sigH_def x y l)  (M := ([(kby x), (kby y)] ++ M)) W hv11 (l := kby x ++ (kby y ++ l)) (by rw [← hl]; simp) (by have := hfit.len; rw [hl] at this; simp only [List.length_append, kby_len]; omega) (by have := hfit.num; simp only [List.length_append, List.length_cons, List.length_nil]; omega) (hgl.ext H.below)), val_grow, fun _ => val_grow⟩, trivial⟩ (by kernel_rfl) ?_
  try clear H a W
  intro a W
  rintro _ rfl
  intro H
  replace H : St 13 w a W [(12, .agg (ks (sigH x y l))), (6, .pointer (some ⟨g3, 0, none⟩)), (4, .pointer (some ⟨g2, 0, none⟩)), (3, .pointer (some ⟨g1, 0, none⟩)), (2, v)] [(g3, 23, ks 0), (g2, 23, ks y), (g1, 23, ks x)] := H
  refine pl_store rfl rfl rfl (k := 0) rfl (info_ks _) (by simp only [sv_size, ev_size, ks_size, Scl.ls_size] <;> rfl) (ks_one _) rfl rfl H ?_
  try clear H a W
  intro a W H
  refine pl_end ?_
  replace H : St 13 w a W [(6, .pointer (some ⟨g3, 0, none⟩))] [(g3, 23, ks (sigH x y l))] := H.pick [1] [0] rfl
  refine hK2 _ _ ?_
  clear hK2
  refine wp_ret ?_
  repeat (first | (with_reducible refine then_ret ?_) | (with_reducible refine blk_ret ?_))
  refine end_cell (p := 6) rfl rfl (k := 0) rfl Tryd.underlying23 rfl (info_ks _) H (fun hb => ?_)
  exact ⟨rfl, hb⟩
set_option maxHeartbeats 4000000 in
theorem public_sign (x : Nat) (w : World) (hgl : GL w) : Calls Tryd.prog 7 #[.agg (ks x)] w (fun rr w' => rr = .returned (.agg (ks (pubN x))) ∧ Below w.heap.size w w') := by
  obtain ⟨z1, hz1⟩ : ∃ z : L4 PP, z = ptMul BE (seedA x) 256 := ⟨_, rfl⟩
  refine calls_st (vs := [.agg (ks x)]) 13 Tryd.func7 rfl Tryd.ntmps7 rfl (fun a W H => ?_)
  replace H : St 13 w a W [(0, .agg (ks x))] [] := H
  refine wp_seq_k (fun K1 hK1 => ?_)
  refine rg_plain ?_
  refine pl_box rfl rfl (bx_key x) rfl rfl rfl rfl H ?_
  try clear H a W
  intro g1 a W H
  refine pl_new (news_of rfl al_key0) rfl rfl rfl rfl H ?_
  try clear H a W
  intro g2 a W H
  refine pl_end ?_
  replace H : St 13 w a W [(2, .pointer (some ⟨g2, 0, none⟩)), (1, .pointer (some ⟨g1, 0, none⟩))] [(g2, 23, ks 0), (g1, 23, ks x)] := H.pick [0, 1] [0, 1] rfl
  refine hK1 _ _ ?_
  clear hK1
  refine wp_seq_k (fun K2 hK2 => ?_)
  refine rg_plain ?_
  refine pl_V (F := fun u_ _ => u_ = .agg (ks x)) (ob_val H (wanted_none rfl) (does_load rfl rfl (k := 1) rfl Tryd.underlying23 rfl (info_ks _))) rfl rfl rfl H ?_
  try clear H a W
  rintro _ a W rfl H
  replace H : St 13 w a W [(6, .agg (ks x)), (2, .pointer (some ⟨g2, 0, none⟩)), (1, .pointer (some ⟨g1, 0, none⟩))] [(g2, 23, ks 0), (g1, 23, ks x)] := H
  refine pl_V (F := fun u_ _ => u_ = .tuple #[.agg (ks (seedA x)), .agg (ks (seedP x))]) (ob_cal H (wanted_none rfl) rfl ⟨_, Tryd.func8, by kernel_rfl⟩ rfl (secrets_any _ W (hgl.ext H.below))) rfl rfl rfl H ?_
  try clear H a W
  rintro _ a W rfl H
  replace H : St 13 w a W [(7, .tuple #[.agg (ks (seedA x)), .agg (ks (seedP x))]), (6, .agg (ks x)), (2, .pointer (some ⟨g2, 0, none⟩)), (1, .pointer (some ⟨g1, 0, none⟩))] [(g2, 23, ks 0), (g1, 23, ks x)] := H
  refine pl_V (F := fun u_ _ => u_ = .tuple #[.agg (ks (seedA x)), .agg (ks (seedP x))]) (ob_val H (wanted_none rfl) (does_move rfl rfl)) rfl rfl rfl H ?_
  try clear H a W
  rintro _ a W rfl H
  replace H : St 13 w a W [(5, .tuple #[.agg (ks (seedA x)), .agg (ks (seedP x))]), (7, .tuple #[.agg (ks (seedA x)), .agg (ks (seedP x))]), (6, .agg (ks x)), (2, .pointer (some ⟨g2, 0, none⟩)), (1, .pointer (some ⟨g1, 0, none⟩))] [(g2, 23, ks 0), (g1, 23, ks x)] := H
  refine pl_V (F := fun u_ _ => u_ = .agg (ks (seedA x))) (ob_val H (wanted_none rfl) (does_extract rfl rfl (fun _ => rfl))) rfl rfl rfl H ?_
  try clear H a W
  rintro _ a W rfl H
  replace H : St 13 w a W [(8, .agg (ks (seedA x))), (5, .tuple #[.agg (ks (seedA x)), .agg (ks (seedP x))]), (7, .tuple #[.agg (ks (seedA x)), .agg (ks (seedP x))]), (6, .agg (ks x)), (2, .pointer (some ⟨g2, 0, none⟩)), (1, .pointer (some ⟨g1, 0, none⟩))] [(g2, 23, ks 0), (g1, 23, ks x)] := H
  refine pl_V (F := fun u_ _ => u_ = .agg (ks (seedP x))) (ob_val H (wanted_none rfl) (does_extract rfl rfl (fun _ => rfl))) rfl rfl rfl H ?_
  try clear H a W
  rintro _ a W rfl H
  replace H : St 13 w a W [(9, .agg (ks (seedP x))), (8, .agg (ks (seedA x))), (5, .tuple #[.agg (ks (seedA x)), .agg (ks (seedP x))]), (7, .tuple #[.agg (ks (seedA x)), .agg (ks (seedP x))]), (6, .agg (ks x)), (2, .pointer (some ⟨g2, 0, none⟩)), (1, .pointer (some ⟨g1, 0, none⟩))] [(g2, 23, ks 0), (g1, 23, ks x)] := H
  refine pl_new (news_of rfl al_key0) rfl rfl rfl rfl H ?_
  try clear H a W
  intro g3 a W H
  refine pl_new (news_of rfl al_key0) rfl rfl rfl rfl H ?_
  try clear H a W
  intro g4 a W H
  refine pl_store rfl rfl rfl (k := 1) rfl (info_ks _) (by simp only [sv_size, ev_size, ks_size, Scl.ls_size] <;> rfl) (ks_one _) rfl rfl H ?_
  try clear H a W
  intro a W H
  refine pl_store rfl rfl rfl (k := 0) rfl (info_ks _) (by simp only [sv_size, ev_size, ks_size, Scl.ls_size] <;> rfl) (ks_one _) rfl rfl H ?_
  try clear H a W
  intro a W H
  refine pl_end ?_
  replace H : St 13 w a W [(3, .pointer (some ⟨g3, 0, none⟩)), (2, .pointer (some ⟨g2, 0, none⟩))] [(g3, 23, ks (seedA x)), (g2, 23, ks 0)] := H.pick [1, 7] [1, 2] rfl
  refine hK2 _ _ ?_
  clear hK2
  refine wp_seq_k (fun K3 hK3 => ?_)
  refine rg_plain ?_
  refine pl_V (F := fun u_ _ => u_ = .agg (ks (seedA x))) (ob_val H (wanted_none rfl) (does_load rfl rfl (k := 0) rfl Tryd.underlying23 rfl (info_ks _))) rfl rfl rfl H ?_
  try clear H a W
  rintro _ a W rfl H
  replace H : St 13 w a W [(10, .agg (ks (seedA x))), (3, .pointer (some ⟨g3, 0, none⟩)), (2, .pointer (some ⟨g2, 0, none⟩))] [(g3, 23, ks (seedA x)), (g2, 23, ks 0)] := H
  refine pl_V (F := fun u_ _ => u_ = .agg (sv z1)) (ob_cal H (wanted_none rfl) rfl ⟨_, Tryd.func9, by kernel_rfl⟩ rfl (baseF hz1 (hgl.ext H.below))) rfl rfl rfl H ?_
  try clear H a W
  rintro _ a W rfl H
  replace H : St 13 w a W [(11, .agg (sv z1)), (10, .agg (ks (seedA x))), (3, .pointer (some ⟨g3, 0, none⟩)), (2, .pointer (some ⟨g2, 0, none⟩))] [(g3, 23, ks (seedA x)), (g2, 23, ks 0)] := H
  refine pl_V (F := fun u_ _ => u_ = .agg (ks (pubN x))) (ob_cal H (wanted_none rfl) rfl ⟨_, Tryd.func10, by kernel_rfl⟩ rfl (bytes_pt (P := BP.mul (seedA x)) (s := z1) (m := (pubN x)) (by rw [hz1]; exact BE_rep.mul (seedA_lt _)) (pubN_def _) W (hgl.ext H.below).pg)) rfl rfl rfl H ?_
  try clear H a W
  rintro _ a W rfl H
  replace H : St 13 w a W [(12, .agg (ks (pubN x))), (11, .agg (sv z1)), (10, .agg (ks (seedA x))), (3, .pointer (some ⟨g3, 0, none⟩)), (2, .pointer (some ⟨g2, 0, none⟩))] [(g3, 23, ks (seedA x)), (g2, 23, ks 0)] := H
  refine pl_store rfl rfl rfl (k := 1) rfl (info_ks _) (by simp only [sv_size, ev_size, ks_size, Scl.ls_size] <;> rfl) (ks_one _) rfl rfl H ?_
  try clear H a W
  intro a W H
  refine pl_end ?_
  replace H : St 13 w a W [(2, .pointer (some ⟨g2, 0, none⟩))] [(g2, 23, ks (pubN x))] := H.pick [4] [1] rfl
  refine hK3 _ _ ?_
  clear hK3
  refine wp_ret ?_
  repeat (first | (with_reducible refine then_ret ?_) | (with_reducible refine blk_ret ?_))
  refine end_cell (p := 2) rfl rfl (k := 0) rfl Tryd.underlying23 rfl (info_ks _) H (fun hb => ?_)
  exact ⟨rfl, hb⟩
set_option maxHeartbeats 4000000 in
theorem sign_any {v : Value} {x : Nat} {M : List (List UInt8)} {l : List UInt8} (w : World) (hv : RF M v w) (hl : M.flatten = l) (hfit : Fit M) (hgl : GL w) : Calls Tryd.prog 5 #[.agg (ks x), v] w (fun rr w' => rr = .returned (.agg (Scl.ls (signN x l))) ∧ Below w.heap.size w w') := by
  obtain ⟨z1, hz1⟩ : ∃ z : L4 PP, z = ptMul BE (seedA x) 256 := ⟨_, rfl⟩
  obtain ⟨z2, hz2⟩ : ∃ z : L4 PP, z = ptMul BE (sigR x l) 256 := ⟨_, rfl⟩
  refine calls_st (vs := [.agg (ks x), v]) 37 Tryd.func5 rfl Tryd.ntmps5 rfl (fun a W H => ?_)
  replace H : St 37 w a W [(0, .agg (ks x)), (1, v)] [] := H
  refine wp_seq_k (fun K1 hK1 => ?_)
  refine rg_plain ?_
  refine pl_box rfl rfl (bx_key x) rfl rfl rfl rfl H ?_
  try clear H a W
  intro g1 a W H
  refine pl_new (news_of rfl al_long) rfl rfl rfl rfl H ?_
  try clear H a W
  intro g2 a W H
  refine pl_end ?_
  replace H : St 37 w a W [(4, .pointer (some ⟨g2, 0, none⟩)), (2, .pointer (some ⟨g1, 0, none⟩)), (1, v)] [(g2, 27, Scl.ls 0), (g1, 23, ks x)] := H.pick [0, 1, 3] [0, 1] rfl
  refine hK1 _ _ ?_
  clear hK1
  refine wp_seq_k (fun K2 hK2 => ?_)
  refine rg_plain ?_
  refine pl_V (F := fun u_ _ => u_ = .agg (ks x)) (ob_val H (wanted_none rfl) (does_load rfl rfl (k := 1) rfl Tryd.underlying23 rfl (info_ks _))) rfl rfl rfl H ?_
  try clear H a W
  rintro _ a W rfl H
  replace H : St 37 w a W [(12, .agg (ks x)), (4, .pointer (some ⟨g2, 0, none⟩)), (2, .pointer (some ⟨g1, 0, none⟩)), (1, v)] [(g2, 27, Scl.ls 0), (g1, 23, ks x)] := H
  refine pl_V (F := fun u_ _ => u_ = .tuple #[.agg (ks (seedA x)), .agg (ks (seedP x))]) (ob_cal H (wanted_none rfl) rfl ⟨_, Tryd.func8, by kernel_rfl⟩ rfl (secrets_any _ W (hgl.ext H.below))) rfl rfl rfl H ?_
  try clear H a W
  rintro _ a W rfl H
  replace H : St 37 w a W [(13, .tuple #[.agg (ks (seedA x)), .agg (ks (seedP x))]), (12, .agg (ks x)), (4, .pointer (some ⟨g2, 0, none⟩)), (2, .pointer (some ⟨g1, 0, none⟩)), (1, v)] [(g2, 27, Scl.ls 0), (g1, 23, ks x)] := H
  refine pl_V (F := fun u_ _ => u_ = .tuple #[.agg (ks (seedA x)), .agg (ks (seedP x))]) (ob_val H (wanted_none rfl) (does_move rfl rfl)) rfl rfl rfl H ?_
  try clear H a W
  rintro _ a W rfl H
  replace H : St 37 w a W [(11, .tuple #[.agg (ks (seedA x)), .agg (ks (seedP x))]), (13, .tuple #[.agg (ks (seedA x)), .agg (ks (seedP x))]), (12, .agg (ks x)), (4, .pointer (some ⟨g2, 0, none⟩)), (2, .pointer (some ⟨g1, 0, none⟩)), (1, v)] [(g2, 27, Scl.ls 0), (g1, 23, ks x)] := H
  refine pl_V (F := fun u_ _ => u_ = .agg (ks (seedA x))) (ob_val H (wanted_none rfl) (does_extract rfl rfl (fun _ => rfl))) rfl rfl rfl H ?_
  try clear H a W
  rintro _ a W rfl H
  replace H : St 37 w a W [(14, .agg (ks (seedA x))), (11, .tuple #[.agg (ks (seedA x)), .agg (ks (seedP x))]), (13, .tuple #[.agg (ks (seedA x)), .agg (ks (seedP x))]), (12, .agg (ks x)), (4, .pointer (some ⟨g2, 0, none⟩)), (2, .pointer (some ⟨g1, 0, none⟩)), (1, v)] [(g2, 27, Scl.ls 0), (g1, 23, ks x)] := H
  refine pl_V (F := fun u_ _ => u_ = .agg (ks (seedP x))) (ob_val H (wanted_none rfl) (does_extract rfl rfl (fun _ => rfl))) rfl rfl rfl H ?_
  try clear H a W
  rintro _ a W rfl H
  replace H : St 37 w a W [(15, .agg (ks (seedP x))), (14, .agg (ks (seedA x))), (11, .tuple #[.agg (ks (seedA x)), .agg (ks (seedP x))]), (13, .tuple #[.agg (ks (seedA x)), .agg (ks (seedP x))]), (12, .agg (ks x)), (4, .pointer (some ⟨g2, 0, none⟩)), (2, .pointer (some ⟨g1, 0, none⟩)), (1, v)] [(g2, 27, Scl.ls 0), (g1, 23, ks x)] := H
  refine pl_new (news_of rfl al_key0) rfl rfl rfl rfl H ?_
  try clear H a W
  intro g3 a W H
  refine pl_new (news_of rfl al_key0) rfl rfl rfl rfl H ?_
  try clear H a W
  intro g4 a W H
  refine pl_store rfl rfl rfl (k := 1) rfl (info_ks _) (by simp only [sv_size, ev_size, ks_size, Scl.ls_size] <;> rfl) (ks_one _) rfl rfl H ?_
  try clear H a W
  intro a W H
  refine pl_store rfl rfl rfl (k := 0) rfl (info_ks _) (by simp only [sv_size, ev_size, ks_size, Scl.ls_size] <;> rfl) (ks_one _) rfl rfl H ?_
  try clear H a W
  intro a W H
  refine pl_end ?_
  replace H : St 37 w a W [(6, .pointer (some ⟨g4, 0, none⟩)), (5, .pointer (some ⟨g3, 0, none⟩)), (4, .pointer (some ⟨g2, 0, none⟩)), (1, v)] [(g4, 23, ks (seedP x)), (g3, 23, ks (seedA x)), (g2, 27, Scl.ls 0)] := H.pick [0, 1, 7, 9] [0, 1, 2] rfl
  refine hK2 _ _ ?_
  clear hK2
  refine wp_seq_k (fun K3 hK3 => ?_)
  refine rg_plain ?_
  refine pl_V (F := fun u_ _ => u_ = .agg (ks (seedA x))) (ob_val H (wanted_none rfl) (does_load rfl rfl (k := 1) rfl Tryd.underlying23 rfl (info_ks _))) rfl rfl rfl H ?_
  try clear H a W
  rintro _ a W rfl H
  replace H : St 37 w a W [(16, .agg (ks (seedA x))), (6, .pointer (some ⟨g4, 0, none⟩)), (5, .pointer (some ⟨g3, 0, none⟩)), (4, .pointer (some ⟨g2, 0, none⟩)), (1, v)] [(g4, 23, ks (seedP x)), (g3, 23, ks (seedA x)), (g2, 27, Scl.ls 0)] := H
  refine pl_V (F := fun u_ _ => u_ = .agg (sv z1)) (ob_cal H (wanted_none rfl) rfl ⟨_, Tryd.func9, by kernel_rfl⟩ rfl (baseF hz1 (hgl.ext H.below))) rfl rfl rfl H ?_
  try clear H a W
  rintro _ a W rfl H
  replace H : St 37 w a W [(17, .agg (sv z1)), (16, .agg (ks (seedA x))), (6, .pointer (some ⟨g4, 0, none⟩)), (5, .pointer (some ⟨g3, 0, none⟩)), (4, .pointer (some ⟨g2, 0, none⟩)), (1, v)] [(g4, 23, ks (seedP x)), (g3, 23, ks (seedA x)), (g2, 27, Scl.ls 0)] := H
  refine pl_V (F := fun u_ _ => u_ = .agg (ks (pubN x))) (ob_cal H (wanted_none rfl) rfl ⟨_, Tryd.func10, by kernel_rfl⟩ rfl (bytes_pt (P := BP.mul (seedA x)) (s := z1) (m := (pubN x)) (by rw [hz1]; exact BE_rep.mul (seedA_lt _)) (pubN_def _) W (hgl.ext H.below).pg)) rfl rfl rfl H ?_
  try clear H a W
  rintro _ a W rfl H
  replace H : St 37 w a W [(18, .agg (ks (pubN x))), (17, .agg (sv z1)), (16, .agg (ks (seedA x))), (6, .pointer (some ⟨g4, 0, none⟩)), (5, .pointer (some ⟨g3, 0, none⟩)), (4, .pointer (some ⟨g2, 0, none⟩)), (1, v)] [(g4, 23, ks (seedP x)), (g3, 23, ks (seedA x)), (g2, 27, Scl.ls 0)] := H
  refine pl_new (news_of rfl al_key0) rfl rfl rfl rfl H ?_
  try clear H a W
  intro g5 a W H
  refine pl_store rfl rfl rfl (k := 0) rfl (info_ks _) (by simp only [sv_size, ev_size, ks_size, Scl.ls_size] <;> rfl) (ks_one _) rfl rfl H ?_
  try clear H a W
  intro a W H
  refine pl_end ?_
  replace H : St 37 w a W [(7, .pointer (some ⟨g5, 0, none⟩)), (6, .pointer (some ⟨g4, 0, none⟩)), (5, .pointer (some ⟨g3, 0, none⟩)), (4, .pointer (some ⟨g2, 0, none⟩)), (1, v)] [(g5, 23, ks (pubN x)), (g4, 23, ks (seedP x)), (g3, 23, ks (seedA x)), (g2, 27, Scl.ls 0)] := H.pick [0, 4, 5, 6, 7] [0, 1, 2, 3] rfl
  refine hK3 _ _ ?_
  clear hK3
  refine wp_seq_k (fun K4 hK4 => ?_)
  refine rg_plain ?_
  refine pl_V (F := fun u_ _ => u_ = .slice (some ⟨g4, 0, none⟩) 32 32) (ob_val H (wanted_none rfl) (does_slice rfl rfl (vl := none) (vh := none) rfl rfl (sl_key g4))) rfl rfl rfl H ?_
  try clear H a W
  rintro _ a W rfl H
  replace H : St 37 w a W [(19, .slice (some ⟨g4, 0, none⟩) 32 32), (7, .pointer (some ⟨g5, 0, none⟩)), (6, .pointer (some ⟨g4, 0, none⟩)), (5, .pointer (some ⟨g3, 0, none⟩)), (4, .pointer (some ⟨g2, 0, none⟩)), (1, v)] [(g5, 23, ks (pubN x)), (g4, 23, ks (seedP x)), (g3, 23, ks (seedA x)), (g2, 27, Scl.ls 0)] := H
  refine pl_V (F := LF [(kby ((seedP x)))]) (ob_rows1 H (wanted_none rfl) rfl rfl (bf_key (H.blk (k := 1) rfl))) rfl rfl rfl H ?_
  try clear H a W
  intro v20 a W hv20 H
  replace H : St 37 w a W [(20, v20), (19, .slice (some ⟨g4, 0, none⟩) 32 32), (7, .pointer (some ⟨g5, 0, none⟩)), (6, .pointer (some ⟨g4, 0, none⟩)), (5, .pointer (some ⟨g3, 0, none⟩)), (4, .pointer (some ⟨g2, 0, none⟩)), (1, v)] [(g5, 23, ks (pubN x)), (g4, 23, ks (seedP x)), (g3, 23, ks (seedA x)), (g2, 27, Scl.ls 0)] := H
  refine pl_F (F := fun u_ _ => u_ = v) (ob_val H (wanted_none rfl) (does_move rfl rfl)) rfl rfl rfl H ?_
  intro y_ a W hy_ hb H
  replace hy_ := hy_.symm
  subst hy_
  replace hv20 := LF.grow _ _ _ hv20 hb
  replace H : St 37 w a W [(21, v), (20, v20), (19, .slice (some ⟨g4, 0, none⟩) 32 32), (7, .pointer (some ⟨g5, 0, none⟩)), (6, .pointer (some ⟨g4, 0, none⟩)), (5, .pointer (some ⟨g3, 0, none⟩)), (4, .pointer (some ⟨g2, 0, none⟩)), (1, v)] [(g5, 23, ks (pubN x)), (g4, 23, ks (seedP x)), (g3, 23, ks (seedA x)), (g2, 27, Scl.ls 0)] := H
  refine pl_F (F := RF ([(kby ((seedP x)))] ++ M)) (ob_append H (wanted_none rfl) rfl rfl rfl hv20 (rf_old hv H) (by simp only [List.length_cons, List.length_nil]; have := hfit.num; omega)) rfl rfl rfl H ?_
  intro v22 a W hv22 hb H
  replace hv20 := LF.grow _ _ _ hv20 hb
  replace H : St 37 w a W [(22, v22), (21, v), (20, v20), (19, .slice (some ⟨g4, 0, none⟩) 32 32), (7, .pointer (some ⟨g5, 0, none⟩)), (6, .pointer (some ⟨g4, 0, none⟩)), (5, .pointer (some ⟨g3, 0, none⟩)), (4, .pointer (some ⟨g2, 0, none⟩)), (1, v)] [(g5, 23, ks (pubN x)), (g4, 23, ks (seedP x)), (g3, 23, ks (seedA x)), (g2, 27, Scl.ls 0)] := H
  refine pl_F (F := fun u_ _ => u_ = .agg (ks (sigR x l))) (ob_cal H (wanted_none rfl) rfl ⟨_, Tryd.func11, by kernel_rfl⟩ rfl (number_z (sigR_def x l)  (M := ([(kby ((seedP x)))] ++ M)) W hv22 (l := kby (seedP x) ++ l) (by rw [← hl]; simp) (by have := hfit.len; rw [hl] at this; simp only [List.length_append, kby_len]; omega) (by have := hfit.num; simp only [List.length_append, List.length_cons, List.length_nil]; omega) (hgl.ext H.below))) rfl rfl rfl H ?_
  rintro _ a W rfl hb H
  replace hv22 := RF.grow _ _ _ hv22 hb
  replace hv20 := LF.grow _ _ _ hv20 hb
  replace H : St 37 w a W [(23, .agg (ks (sigR x l))), (22, v22), (21, v), (20, v20), (19, .slice (some ⟨g4, 0, none⟩) 32 32), (7, .pointer (some ⟨g5, 0, none⟩)), (6, .pointer (some ⟨g4, 0, none⟩)), (5, .pointer (some ⟨g3, 0, none⟩)), (4, .pointer (some ⟨g2, 0, none⟩)), (1, v)] [(g5, 23, ks (pubN x)), (g4, 23, ks (seedP x)), (g3, 23, ks (seedA x)), (g2, 27, Scl.ls 0)] := H
  replace H : St 37 w a W [(23, .agg (ks (sigR x l))), (21, v), (19, .slice (some ⟨g4, 0, none⟩) 32 32), (7, .pointer (some ⟨g5, 0, none⟩)), (6, .pointer (some ⟨g4, 0, none⟩)), (5, .pointer (some ⟨g3, 0, none⟩)), (4, .pointer (some ⟨g2, 0, none⟩)), (1, v)] [(g5, 23, ks (pubN x)), (g4, 23, ks (seedP x)), (g3, 23, ks (seedA x)), (g2, 27, Scl.ls 0)] := H.pick [0, 2, 4, 5, 6, 7, 8, 9] [0, 1, 2, 3] rfl
  refine pl_new (news_of rfl al_key0) rfl rfl rfl rfl H ?_
  try clear H a W
  intro g6 a W H
  refine pl_store rfl rfl rfl (k := 0) rfl (info_ks _) (by simp only [sv_size, ev_size, ks_size, Scl.ls_size] <;> rfl) (ks_one _) rfl rfl H ?_
  try clear H a W
  intro a W H
  refine pl_end ?_
  replace H : St 37 w a W [(8, .pointer (some ⟨g6, 0, none⟩)), (7, .pointer (some ⟨g5, 0, none⟩)), (5, .pointer (some ⟨g3, 0, none⟩)), (4, .pointer (some ⟨g2, 0, none⟩)), (1, v)] [(g6, 23, ks (sigR x l)), (g5, 23, ks (pubN x)), (g3, 23, ks (seedA x)), (g2, 27, Scl.ls 0)] := H.pick [0, 4, 6, 7, 8] [0, 1, 3, 4] rfl
  refine hK4 _ _ ?_
  clear hK4
  refine wp_seq_k (fun K5 hK5 => ?_)
  refine rg_plain ?_
  refine pl_V (F := fun u_ _ => u_ = .agg (ks (sigR x l))) (ob_val H (wanted_none rfl) (does_load rfl rfl (k := 0) rfl Tryd.underlying23 rfl (info_ks _))) rfl rfl rfl H ?_
  try clear H a W
  rintro _ a W rfl H
  replace H : St 37 w a W [(24, .agg (ks (sigR x l))), (8, .pointer (some ⟨g6, 0, none⟩)), (7, .pointer (some ⟨g5, 0, none⟩)), (5, .pointer (some ⟨g3, 0, none⟩)), (4, .pointer (some ⟨g2, 0, none⟩)), (1, v)] [(g6, 23, ks (sigR x l)), (g5, 23, ks (pubN x)), (g3, 23, ks (seedA x)), (g2, 27, Scl.ls 0)] := H
  refine pl_V (F := fun u_ _ => u_ = .agg (sv z2)) (ob_cal H (wanted_none rfl) rfl ⟨_, Tryd.func9, by kernel_rfl⟩ rfl (baseF hz2 (hgl.ext H.below))) rfl rfl rfl H ?_
  try clear H a W
  rintro _ a W rfl H
  replace H : St 37 w a W [(25, .agg (sv z2)), (24, .agg (ks (sigR x l))), (8, .pointer (some ⟨g6, 0, none⟩)), (7, .pointer (some ⟨g5, 0, none⟩)), (5, .pointer (some ⟨g3, 0, none⟩)), (4, .pointer (some ⟨g2, 0, none⟩)), (1, v)] [(g6, 23, ks (sigR x l)), (g5, 23, ks (pubN x)), (g3, 23, ks (seedA x)), (g2, 27, Scl.ls 0)] := H
  refine pl_V (F := fun u_ _ => u_ = .agg (ks (sigP x l))) (ob_cal H (wanted_none rfl) rfl ⟨_, Tryd.func10, by kernel_rfl⟩ rfl (bytes_pt (P := BP.mul (sigR x l)) (s := z2) (m := (sigP x l)) (by rw [hz2]; exact BE_rep.mul (sigR_lt _ _)) (sigP_def _ _) W (hgl.ext H.below).pg)) rfl rfl rfl H ?_
  try clear H a W
  rintro _ a W rfl H
  replace H : St 37 w a W [(26, .agg (ks (sigP x l))), (25, .agg (sv z2)), (24, .agg (ks (sigR x l))), (8, .pointer (some ⟨g6, 0, none⟩)), (7, .pointer (some ⟨g5, 0, none⟩)), (5, .pointer (some ⟨g3, 0, none⟩)), (4, .pointer (some ⟨g2, 0, none⟩)), (1, v)] [(g6, 23, ks (sigR x l)), (g5, 23, ks (pubN x)), (g3, 23, ks (seedA x)), (g2, 27, Scl.ls 0)] := H
  refine pl_new (news_of rfl al_key0) rfl rfl rfl rfl H ?_
  try clear H a W
  intro g7 a W H
  refine pl_store rfl rfl rfl (k := 0) rfl (info_ks _) (by simp only [sv_size, ev_size, ks_size, Scl.ls_size] <;> rfl) (ks_one _) rfl rfl H ?_
  try clear H a W
  intro a W H
  refine pl_end ?_
  replace H : St 37 w a W [(9, .pointer (some ⟨g7, 0, none⟩)), (8, .pointer (some ⟨g6, 0, none⟩)), (7, .pointer (some ⟨g5, 0, none⟩)), (5, .pointer (some ⟨g3, 0, none⟩)), (4, .pointer (some ⟨g2, 0, none⟩)), (1, v)] [(g7, 23, ks (sigP x l)), (g6, 23, ks (sigR x l)), (g5, 23, ks (pubN x)), (g3, 23, ks (seedA x)), (g2, 27, Scl.ls 0)] := H.pick [0, 4, 5, 6, 7, 8] [0, 1, 2, 3, 4] rfl
  refine hK5 _ _ ?_
  clear hK5
  refine wp_seq_k (fun K6 hK6 => ?_)
  refine rg_plain ?_
  refine pl_V (F := fun u_ _ => u_ = .agg (ks (sigP x l))) (ob_val H (wanted_none rfl) (does_load rfl rfl (k := 0) rfl Tryd.underlying23 rfl (info_ks _))) rfl rfl rfl H ?_
  try clear H a W
  rintro _ a W rfl H
  replace H : St 37 w a W [(27, .agg (ks (sigP x l))), (9, .pointer (some ⟨g7, 0, none⟩)), (8, .pointer (some ⟨g6, 0, none⟩)), (7, .pointer (some ⟨g5, 0, none⟩)), (5, .pointer (some ⟨g3, 0, none⟩)), (4, .pointer (some ⟨g2, 0, none⟩)), (1, v)] [(g7, 23, ks (sigP x l)), (g6, 23, ks (sigR x l)), (g5, 23, ks (pubN x)), (g3, 23, ks (seedA x)), (g2, 27, Scl.ls 0)] := H
  refine pl_V (F := fun u_ _ => u_ = .agg (ks (pubN x))) (ob_val H (wanted_none rfl) (does_load rfl rfl (k := 2) rfl Tryd.underlying23 rfl (info_ks _))) rfl rfl rfl H ?_
  try clear H a W
  rintro _ a W rfl H
  replace H : St 37 w a W [(28, .agg (ks (pubN x))), (27, .agg (ks (sigP x l))), (9, .pointer (some ⟨g7, 0, none⟩)), (8, .pointer (some ⟨g6, 0, none⟩)), (7, .pointer (some ⟨g5, 0, none⟩)), (5, .pointer (some ⟨g3, 0, none⟩)), (4, .pointer (some ⟨g2, 0, none⟩)), (1, v)] [(g7, 23, ks (sigP x l)), (g6, 23, ks (sigR x l)), (g5, 23, ks (pubN x)), (g3, 23, ks (seedA x)), (g2, 27, Scl.ls 0)] := H
  refine pl_V (F := fun u_ _ => u_ = v) (ob_val H (wanted_none rfl) (does_move rfl rfl)) rfl rfl rfl H ?_
  try clear H a W
  intro y_ a W hy_ H
  replace hy_ := hy_.symm
  subst hy_
  replace H : St 37 w a W [(29, v), (28, .agg (ks (pubN x))), (27, .agg (ks (sigP x l))), (9, .pointer (some ⟨g7, 0, none⟩)), (8, .pointer (some ⟨g6, 0, none⟩)), (7, .pointer (some ⟨g5, 0, none⟩)), (5, .pointer (some ⟨g3, 0, none⟩)), (4, .pointer (some ⟨g2, 0, none⟩)), (1, v)] [(g7, 23, ks (sigP x l)), (g6, 23, ks (sigR x l)), (g5, 23, ks (pubN x)), (g3, 23, ks (seedA x)), (g2, 27, Scl.ls 0)] := H
  refine pl_V (F := fun u_ _ => u_ = .agg (ks (sigH (sigP x l) (pubN x) l))) (ob_cal H (wanted_none rfl) rfl ⟨_, Tryd.func12, by kernel_rfl⟩ rfl (bound_any W (rf_old hv H) hl hfit (hgl.ext H.below))) rfl rfl rfl H ?_
  try clear H a W
  rintro _ a W rfl H
  replace H : St 37 w a W [(30, .agg (ks (sigH (sigP x l) (pubN x) l))), (29, v), (28, .agg (ks (pubN x))), (27, .agg (ks (sigP x l))), (9, .pointer (some ⟨g7, 0, none⟩)), (8, .pointer (some ⟨g6, 0, none⟩)), (7, .pointer (some ⟨g5, 0, none⟩)), (5, .pointer (some ⟨g3, 0, none⟩)), (4, .pointer (some ⟨g2, 0, none⟩)), (1, v)] [(g7, 23, ks (sigP x l)), (g6, 23, ks (sigR x l)), (g5, 23, ks (pubN x)), (g3, 23, ks (seedA x)), (g2, 27, Scl.ls 0)] := H
  refine pl_new (news_of rfl al_key0) rfl rfl rfl rfl H ?_
  try clear H a W
  intro g8 a W H
  refine pl_store rfl rfl rfl (k := 0) rfl (info_ks _) (by simp only [sv_size, ev_size, ks_size, Scl.ls_size] <;> rfl) (ks_one _) rfl rfl H ?_
  try clear H a W
  intro a W H
  refine pl_end ?_
  replace H : St 37 w a W [(10, .pointer (some ⟨g8, 0, none⟩)), (9, .pointer (some ⟨g7, 0, none⟩)), (8, .pointer (some ⟨g6, 0, none⟩)), (5, .pointer (some ⟨g3, 0, none⟩)), (4, .pointer (some ⟨g2, 0, none⟩))] [(g8, 23, ks (sigH (sigP x l) (pubN x) l)), (g7, 23, ks (sigP x l)), (g6, 23, ks (sigR x l)), (g3, 23, ks (seedA x)), (g2, 27, Scl.ls 0)] := H.pick [0, 5, 6, 8, 9] [0, 1, 2, 4, 5] rfl
  refine hK6 _ _ ?_
  clear hK6
  refine wp_seq_k (fun K7 hK7 => ?_)
  refine drawnS [.val 31 (.agg (ks (sigP x l))) [] [1], .val 32 (.agg (ks (sigH (sigP x l) (pubN x) l))) [] [0], .val 33 (.agg (ks (seedA x))) [] [3], .val 34 (.agg (ks (sigR x l))) [] [2], .val 35 (.agg (ks (sigS x l))) [1, 2, 3] [], .val 36 (.agg (Scl.ls (signN x l))) [0, 4] [], .sto 4 g2 27 (Scl.ls 0) (Scl.ls (signN x l)) [5]] [0, 0, 0, 0, 14, 17, 63] (by kernel_rfl) (by kernel_rfl) (by kernel_rfl) H ⟨⟨does_load rfl rfl (k := 0) rfl Tryd.underlying23 rfl (info_ks _), wanted_none rfl⟩, ⟨does_load rfl rfl (k := 0) rfl Tryd.underlying23 rfl (info_ks _), wanted_none rfl⟩, ⟨does_load rfl rfl (k := 0) rfl Tryd.underlying23 rfl (info_ks _), wanted_none rfl⟩, ⟨does_load rfl rfl (k := 0) rfl Tryd.underlying23 rfl (info_ks _), wanted_none rfl⟩, ⟨does_call rfl ⟨_, Tryd.func14, by kernel_rfl⟩ rfl (fun W hb => mulAddF (sigS_def x l) (hgl.ext hb) (sigH_lt _ _ _) (seedA_lt x) (sigR_lt _ _)), wanted_none rfl⟩, ⟨does_call rfl ⟨_, Tryd.func13, by kernel_rfl⟩ rfl (fun W hb => joined_z (signN_def x l) (sigP_lt x l) W (hgl.ext hb)), wanted_none rfl⟩, ⟨rfl, rfl, sto_row rfl rfl rfl (info_ls _) (by simp only [sv_size, ev_size, ks_size, Scl.ls_size] <;> rfl) (ls_one _)⟩, trivial⟩ ?_
  try clear H a W
  intro G9 a W H
  replace H : St 37 w a W [(31, .agg (ks (sigP x l))), (32, .agg (ks (sigH (sigP x l) (pubN x) l))), (33, .agg (ks (seedA x))), (34, .agg (ks (sigR x l))), (35, .agg (ks (sigS x l))), (36, .agg (Scl.ls (signN x l))), (10, .pointer (some ⟨g8, 0, none⟩)), (9, .pointer (some ⟨g7, 0, none⟩)), (8, .pointer (some ⟨g6, 0, none⟩)), (5, .pointer (some ⟨g3, 0, none⟩)), (4, .pointer (some ⟨g2, 0, none⟩))] [(g8, 23, ks (sigH (sigP x l) (pubN x) l)), (g7, 23, ks (sigP x l)), (g6, 23, ks (sigR x l)), (g3, 23, ks (seedA x)), (g2, 27, Scl.ls (signN x l))] := H
  replace H : St 37 w a W [(4, .pointer (some ⟨g2, 0, none⟩))] [(g2, 27, Scl.ls (signN x l))] := H.pick [10] [4] rfl
  refine hK7 _ _ ?_
  clear hK7
  refine wp_ret ?_
  repeat (first | (with_reducible refine then_ret ?_) | (with_reducible refine blk_ret ?_))
  refine end_cell (p := 4) rfl rfl (k := 0) rfl Tryd.underlying27 rfl (info_ls _) H (fun hb => ?_)
  exact ⟨rfl, hb⟩
theorem of_yes_z {n : Nat} {z : L4 PP} (hn : n < 115792089237316195423570985008687907853269984665640564039457584007913129639936) (h : isPt n = true) (hz : z = ptE (ptX n) (ofK n)) (w : World) (hpg : PG w) : Calls Tryd.prog 16 #[.agg (ks n)] w (fun rr w' => rr = .returned (.tuple #[.agg (sv z), .bool true]) ∧ Below w.heap.size w w') := by
  subst hz; exact of_yes hn h w hpg
set_option maxHeartbeats 4000000 in
theorem check_a {v : Value} {p n : Nat} {M : List (List UInt8)} {l : List UInt8} (w : World) (hv : RF M v w) (hl : M.flatten = l) (hfit : Fit M) (hp : p < 115792089237316195423570985008687907853269984665640564039457584007913129639936) (hn : n < 13407807929942597099574024998205846127479365820592393377723561443721764030073546976801874298166903427690031858186486050853753882811946569946433649006084096) (hisp : isPt p = false) (hgl : GL w) : Calls Tryd.prog 6 #[.agg (ks p), .agg (Scl.ls n), v] w (fun rr w' => rr = .returned (.int .i64 8) ∧ Below w.heap.size w w') := by
  refine calls_st (vs := [.agg (ks p), .agg (Scl.ls n), v]) 43 Tryd.func6 rfl Tryd.ntmps6 rfl (fun a W H => ?_)
  replace H : St 43 w a W [(0, .agg (ks p)), (1, .agg (Scl.ls n)), (2, v)] [] := H
  refine wp_seq_k (fun K1 hK1 => ?_)
  refine rg_plain ?_
  refine pl_box rfl rfl (bx_key p) rfl rfl rfl rfl H ?_
  try clear H a W
  intro g1 a W H
  refine pl_box rfl rfl (bx_long n) rfl rfl rfl rfl H ?_
  try clear H a W
  intro g2 a W H
  refine pl_V (F := fun u_ _ => u_ = .int .i64 0) (ob_val H (wanted_none rfl) (does_assign rfl rfl)) rfl rfl rfl H ?_
  try clear H a W
  rintro _ a W rfl H
  replace H : St 43 w a W [(6, .int .i64 0), (4, .pointer (some ⟨g2, 0, none⟩)), (3, .pointer (some ⟨g1, 0, none⟩)), (0, .agg (ks p)), (1, .agg (Scl.ls n)), (2, v)] [(g2, 27, Scl.ls n), (g1, 23, ks p)] := H
  refine pl_end ?_
  replace H : St 43 w a W [(6, .int .i64 0), (4, .pointer (some ⟨g2, 0, none⟩)), (3, .pointer (some ⟨g1, 0, none⟩)), (2, v)] [(g2, 27, Scl.ls n), (g1, 23, ks p)] := H.pick [0, 1, 2, 5] [0, 1] rfl
  refine hK1 _ _ ?_
  clear hK1
  refine wp_seq_k (fun K2 hK2 => ?_)
  refine rg_plain ?_
  refine pl_V (F := fun u_ _ => u_ = .agg (Scl.ls n)) (ob_val H (wanted_none rfl) (does_load rfl rfl (k := 0) rfl Tryd.underlying27 rfl (info_ls _))) rfl rfl rfl H ?_
  try clear H a W
  rintro _ a W rfl H
  replace H : St 43 w a W [(13, .agg (Scl.ls n)), (6, .int .i64 0), (4, .pointer (some ⟨g2, 0, none⟩)), (3, .pointer (some ⟨g1, 0, none⟩)), (2, v)] [(g2, 27, Scl.ls n), (g1, 23, ks p)] := H
  refine pl_V (F := fun u_ _ => u_ = .tuple #[.agg (ks (n % 115792089237316195423570985008687907853269984665640564039457584007913129639936)), .agg (ks (n / 115792089237316195423570985008687907853269984665640564039457584007913129639936))]) (ob_cal H (wanted_none rfl) rfl ⟨_, Tryd.func15, by kernel_rfl⟩ rfl (halves_any _ W (hgl.ext H.below))) rfl rfl rfl H ?_
  try clear H a W
  rintro _ a W rfl H
  replace H : St 43 w a W [(14, .tuple #[.agg (ks (n % 115792089237316195423570985008687907853269984665640564039457584007913129639936)), .agg (ks (n / 115792089237316195423570985008687907853269984665640564039457584007913129639936))]), (13, .agg (Scl.ls n)), (6, .int .i64 0), (4, .pointer (some ⟨g2, 0, none⟩)), (3, .pointer (some ⟨g1, 0, none⟩)), (2, v)] [(g2, 27, Scl.ls n), (g1, 23, ks p)] := H
  refine pl_V (F := fun u_ _ => u_ = .tuple #[.agg (ks (n % 115792089237316195423570985008687907853269984665640564039457584007913129639936)), .agg (ks (n / 115792089237316195423570985008687907853269984665640564039457584007913129639936))]) (ob_val H (wanted_none rfl) (does_move rfl rfl)) rfl rfl rfl H ?_
  try clear H a W
  rintro _ a W rfl H
  replace H : St 43 w a W [(12, .tuple #[.agg (ks (n % 115792089237316195423570985008687907853269984665640564039457584007913129639936)), .agg (ks (n / 115792089237316195423570985008687907853269984665640564039457584007913129639936))]), (14, .tuple #[.agg (ks (n % 115792089237316195423570985008687907853269984665640564039457584007913129639936)), .agg (ks (n / 115792089237316195423570985008687907853269984665640564039457584007913129639936))]), (13, .agg (Scl.ls n)), (6, .int .i64 0), (4, .pointer (some ⟨g2, 0, none⟩)), (3, .pointer (some ⟨g1, 0, none⟩)), (2, v)] [(g2, 27, Scl.ls n), (g1, 23, ks p)] := H
  refine pl_V (F := fun u_ _ => u_ = .agg (ks (n % 115792089237316195423570985008687907853269984665640564039457584007913129639936))) (ob_val H (wanted_none rfl) (does_extract rfl rfl (fun _ => rfl))) rfl rfl rfl H ?_
  try clear H a W
  rintro _ a W rfl H
  replace H : St 43 w a W [(15, .agg (ks (n % 115792089237316195423570985008687907853269984665640564039457584007913129639936))), (12, .tuple #[.agg (ks (n % 115792089237316195423570985008687907853269984665640564039457584007913129639936)), .agg (ks (n / 115792089237316195423570985008687907853269984665640564039457584007913129639936))]), (14, .tuple #[.agg (ks (n % 115792089237316195423570985008687907853269984665640564039457584007913129639936)), .agg (ks (n / 115792089237316195423570985008687907853269984665640564039457584007913129639936))]), (13, .agg (Scl.ls n)), (6, .int .i64 0), (4, .pointer (some ⟨g2, 0, none⟩)), (3, .pointer (some ⟨g1, 0, none⟩)), (2, v)] [(g2, 27, Scl.ls n), (g1, 23, ks p)] := H
  refine pl_V (F := fun u_ _ => u_ = .agg (ks (n / 115792089237316195423570985008687907853269984665640564039457584007913129639936))) (ob_val H (wanted_none rfl) (does_extract rfl rfl (fun _ => rfl))) rfl rfl rfl H ?_
  try clear H a W
  rintro _ a W rfl H
  replace H : St 43 w a W [(16, .agg (ks (n / 115792089237316195423570985008687907853269984665640564039457584007913129639936))), (15, .agg (ks (n % 115792089237316195423570985008687907853269984665640564039457584007913129639936))), (12, .tuple #[.agg (ks (n % 115792089237316195423570985008687907853269984665640564039457584007913129639936)), .agg (ks (n / 115792089237316195423570985008687907853269984665640564039457584007913129639936))]), (14, .tuple #[.agg (ks (n % 115792089237316195423570985008687907853269984665640564039457584007913129639936)), .agg (ks (n / 115792089237316195423570985008687907853269984665640564039457584007913129639936))]), (13, .agg (Scl.ls n)), (6, .int .i64 0), (4, .pointer (some ⟨g2, 0, none⟩)), (3, .pointer (some ⟨g1, 0, none⟩)), (2, v)] [(g2, 27, Scl.ls n), (g1, 23, ks p)] := H
  refine pl_new (news_of rfl al_key0) rfl rfl rfl rfl H ?_
  try clear H a W
  intro g3 a W H
  refine pl_new (news_of rfl al_key0) rfl rfl rfl rfl H ?_
  try clear H a W
  intro g4 a W H
  refine pl_store rfl rfl rfl (k := 1) rfl (info_ks _) (by simp only [sv_size, ev_size, ks_size, Scl.ls_size] <;> rfl) (ks_one _) rfl rfl H ?_
  try clear H a W
  intro a W H
  refine pl_store rfl rfl rfl (k := 0) rfl (info_ks _) (by simp only [sv_size, ev_size, ks_size, Scl.ls_size] <;> rfl) (ks_one _) rfl rfl H ?_
  try clear H a W
  intro a W H
  refine pl_end ?_
  replace H : St 43 w a W [(8, .pointer (some ⟨g4, 0, none⟩)), (7, .pointer (some ⟨g3, 0, none⟩)), (6, .int .i64 0), (3, .pointer (some ⟨g1, 0, none⟩)), (2, v)] [(g4, 23, ks (n / 115792089237316195423570985008687907853269984665640564039457584007913129639936)), (g3, 23, ks (n % 115792089237316195423570985008687907853269984665640564039457584007913129639936)), (g1, 23, ks p)] := H.pick [0, 1, 7, 9, 10] [0, 1, 3] rfl
  refine hK2 _ _ ?_
  clear hK2
  refine wp_seq_k (fun K3 hK3 => ?_)
  refine rg_plain ?_
  refine pl_V (F := fun u_ _ => u_ = .agg (ks p)) (ob_val H (wanted_none rfl) (does_load rfl rfl (k := 2) rfl Tryd.underlying23 rfl (info_ks _))) rfl rfl rfl H ?_
  try clear H a W
  rintro _ a W rfl H
  replace H : St 43 w a W [(18, .agg (ks p)), (8, .pointer (some ⟨g4, 0, none⟩)), (7, .pointer (some ⟨g3, 0, none⟩)), (6, .int .i64 0), (3, .pointer (some ⟨g1, 0, none⟩)), (2, v)] [(g4, 23, ks (n / 115792089237316195423570985008687907853269984665640564039457584007913129639936)), (g3, 23, ks (n % 115792089237316195423570985008687907853269984665640564039457584007913129639936)), (g1, 23, ks p)] := H
  refine pl_V (F := fun u_ _ => u_ = .tuple #[.agg (sv PZ), .bool false]) (ob_cal H (wanted_none rfl) rfl ⟨_, Tryd.func16, by kernel_rfl⟩ rfl (of_no hp hisp W (hgl.ext H.below).pg)) rfl rfl rfl H ?_
  try clear H a W
  rintro _ a W rfl H
  replace H : St 43 w a W [(19, .tuple #[.agg (sv PZ), .bool false]), (18, .agg (ks p)), (8, .pointer (some ⟨g4, 0, none⟩)), (7, .pointer (some ⟨g3, 0, none⟩)), (6, .int .i64 0), (3, .pointer (some ⟨g1, 0, none⟩)), (2, v)] [(g4, 23, ks (n / 115792089237316195423570985008687907853269984665640564039457584007913129639936)), (g3, 23, ks (n % 115792089237316195423570985008687907853269984665640564039457584007913129639936)), (g1, 23, ks p)] := H
  refine pl_V (F := fun u_ _ => u_ = .tuple #[.agg (sv PZ), .bool false]) (ob_val H (wanted_none rfl) (does_move rfl rfl)) rfl rfl rfl H ?_
  try clear H a W
  rintro _ a W rfl H
  replace H : St 43 w a W [(17, .tuple #[.agg (sv PZ), .bool false]), (19, .tuple #[.agg (sv PZ), .bool false]), (18, .agg (ks p)), (8, .pointer (some ⟨g4, 0, none⟩)), (7, .pointer (some ⟨g3, 0, none⟩)), (6, .int .i64 0), (3, .pointer (some ⟨g1, 0, none⟩)), (2, v)] [(g4, 23, ks (n / 115792089237316195423570985008687907853269984665640564039457584007913129639936)), (g3, 23, ks (n % 115792089237316195423570985008687907853269984665640564039457584007913129639936)), (g1, 23, ks p)] := H
  refine pl_V (F := fun u_ _ => u_ = .agg (sv PZ)) (ob_val H (wanted_none rfl) (does_extract rfl rfl (fun _ => rfl))) rfl rfl rfl H ?_
  try clear H a W
  rintro _ a W rfl H
  replace H : St 43 w a W [(20, .agg (sv PZ)), (17, .tuple #[.agg (sv PZ), .bool false]), (19, .tuple #[.agg (sv PZ), .bool false]), (18, .agg (ks p)), (8, .pointer (some ⟨g4, 0, none⟩)), (7, .pointer (some ⟨g3, 0, none⟩)), (6, .int .i64 0), (3, .pointer (some ⟨g1, 0, none⟩)), (2, v)] [(g4, 23, ks (n / 115792089237316195423570985008687907853269984665640564039457584007913129639936)), (g3, 23, ks (n % 115792089237316195423570985008687907853269984665640564039457584007913129639936)), (g1, 23, ks p)] := H
  refine pl_V (F := fun u_ _ => u_ = .bool false) (ob_val H (wanted_none rfl) (does_extract rfl rfl (fun _ => rfl))) rfl rfl rfl H ?_
  try clear H a W
  rintro _ a W rfl H
  replace H : St 43 w a W [(21, .bool false), (20, .agg (sv PZ)), (17, .tuple #[.agg (sv PZ), .bool false]), (19, .tuple #[.agg (sv PZ), .bool false]), (18, .agg (ks p)), (8, .pointer (some ⟨g4, 0, none⟩)), (7, .pointer (some ⟨g3, 0, none⟩)), (6, .int .i64 0), (3, .pointer (some ⟨g1, 0, none⟩)), (2, v)] [(g4, 23, ks (n / 115792089237316195423570985008687907853269984665640564039457584007913129639936)), (g3, 23, ks (n % 115792089237316195423570985008687907853269984665640564039457584007913129639936)), (g1, 23, ks p)] := H
  refine pl_new (news_of rfl al_pt) rfl rfl rfl rfl H ?_
  try clear H a W
  intro g5 a W H
  refine pl_store rfl rfl rfl (k := 0) rfl (info_pt _) (by simp only [sv_size, ev_size, ks_size, Scl.ls_size] <;> rfl) (sv_one _) rfl rfl H ?_
  try clear H a W
  intro a W H
  refine pl_V (F := fun u_ _ => u_ = .bool false) (ob_val H (wanted_none rfl) (does_assign rfl rfl)) rfl rfl rfl H ?_
  try clear H a W
  rintro _ a W rfl H
  replace H : St 43 w a W [(10, .bool false), (9, .pointer (some ⟨g5, 0, none⟩)), (21, .bool false), (20, .agg (sv PZ)), (17, .tuple #[.agg (sv PZ), .bool false]), (19, .tuple #[.agg (sv PZ), .bool false]), (18, .agg (ks p)), (8, .pointer (some ⟨g4, 0, none⟩)), (7, .pointer (some ⟨g3, 0, none⟩)), (6, .int .i64 0), (3, .pointer (some ⟨g1, 0, none⟩)), (2, v)] [(g5, 41, sv PZ), (g4, 23, ks (n / 115792089237316195423570985008687907853269984665640564039457584007913129639936)), (g3, 23, ks (n % 115792089237316195423570985008687907853269984665640564039457584007913129639936)), (g1, 23, ks p)] := H
  refine pl_end ?_
  replace H : St 43 w a W [(10, .bool false), (9, .pointer (some ⟨g5, 0, none⟩)), (8, .pointer (some ⟨g4, 0, none⟩)), (7, .pointer (some ⟨g3, 0, none⟩)), (6, .int .i64 0), (3, .pointer (some ⟨g1, 0, none⟩)), (2, v)] [(g5, 41, sv PZ), (g4, 23, ks (n / 115792089237316195423570985008687907853269984665640564039457584007913129639936)), (g3, 23, ks (n % 115792089237316195423570985008687907853269984665640564039457584007913129639936)), (g1, 23, ks p)] := H.pick [0, 1, 7, 8, 9, 10, 11] [0, 1, 2, 3] rfl
  refine hK3 _ _ ?_
  clear hK3
  refine wp_seq_k (fun K4 hK4 => ?_)
  refine wp_seq_k (fun K5 hK5 => ?_)
  refine rg_plain ?_
  refine pl_V (F := fun u_ _ => u_ = .bool false) (ob_val H (wanted_none rfl) (does_move rfl rfl)) rfl rfl rfl H ?_
  try clear H a W
  rintro _ a W rfl H
  replace H : St 43 w a W [(22, .bool false), (10, .bool false), (9, .pointer (some ⟨g5, 0, none⟩)), (8, .pointer (some ⟨g4, 0, none⟩)), (7, .pointer (some ⟨g3, 0, none⟩)), (6, .int .i64 0), (3, .pointer (some ⟨g1, 0, none⟩)), (2, v)] [(g5, 41, sv PZ), (g4, 23, ks (n / 115792089237316195423570985008687907853269984665640564039457584007913129639936)), (g3, 23, ks (n % 115792089237316195423570985008687907853269984665640564039457584007913129639936)), (g1, 23, ks p)] := H
  refine pl_V (F := fun u_ _ => u_ = .bool true) (ob_val H (wanted_none rfl) (does_unOp rfl rfl (fun _ => rfl))) rfl rfl rfl H ?_
  try clear H a W
  rintro _ a W rfl H
  replace H : St 43 w a W [(23, .bool true), (22, .bool false), (10, .bool false), (9, .pointer (some ⟨g5, 0, none⟩)), (8, .pointer (some ⟨g4, 0, none⟩)), (7, .pointer (some ⟨g3, 0, none⟩)), (6, .int .i64 0), (3, .pointer (some ⟨g1, 0, none⟩)), (2, v)] [(g5, 41, sv PZ), (g4, 23, ks (n / 115792089237316195423570985008687907853269984665640564039457584007913129639936)), (g3, 23, ks (n % 115792089237316195423570985008687907853269984665640564039457584007913129639936)), (g1, 23, ks p)] := H
  refine pl_V (F := fun u_ _ => u_ = .bool true) (ob_val H (wanted_none rfl) (does_move rfl rfl)) rfl rfl rfl H ?_
  try clear H a W
  rintro _ a W rfl H
  replace H : St 43 w a W [(24, .bool true), (23, .bool true), (22, .bool false), (10, .bool false), (9, .pointer (some ⟨g5, 0, none⟩)), (8, .pointer (some ⟨g4, 0, none⟩)), (7, .pointer (some ⟨g3, 0, none⟩)), (6, .int .i64 0), (3, .pointer (some ⟨g1, 0, none⟩)), (2, v)] [(g5, 41, sv PZ), (g4, 23, ks (n / 115792089237316195423570985008687907853269984665640564039457584007913129639936)), (g3, 23, ks (n % 115792089237316195423570985008687907853269984665640564039457584007913129639936)), (g1, 23, ks p)] := H
  refine pl_skip (wanted_some rfl rfl rfl rfl rfl) rfl rfl rfl H ?_
  try clear H a W
  intro a W H
  refine pl_skip (wanted_some rfl rfl rfl rfl rfl) rfl rfl rfl H ?_
  try clear H a W
  intro a W H
  refine pl_skip (wanted_some rfl rfl rfl rfl rfl) rfl rfl rfl H ?_
  try clear H a W
  intro a W H
  refine pl_V (F := fun u_ _ => u_ = .bool true) (ob_val H (wanted_none rfl) (does_pick rfl rfl (fun _ => rfl) (fun hb => by cases hb))) rfl rfl rfl H ?_
  try clear H a W
  rintro _ a W rfl H
  replace H : St 43 w a W [(28, .bool true), (27, undef), (26, undef), (25, undef), (24, .bool true), (23, .bool true), (22, .bool false), (10, .bool false), (9, .pointer (some ⟨g5, 0, none⟩)), (8, .pointer (some ⟨g4, 0, none⟩)), (7, .pointer (some ⟨g3, 0, none⟩)), (6, .int .i64 0), (3, .pointer (some ⟨g1, 0, none⟩)), (2, v)] [(g5, 41, sv PZ), (g4, 23, ks (n / 115792089237316195423570985008687907853269984665640564039457584007913129639936)), (g3, 23, ks (n % 115792089237316195423570985008687907853269984665640564039457584007913129639936)), (g1, 23, ks p)] := H
  refine pl_end ?_
  replace H : St 43 w a W [(28, .bool true), (9, .pointer (some ⟨g5, 0, none⟩)), (8, .pointer (some ⟨g4, 0, none⟩)), (7, .pointer (some ⟨g3, 0, none⟩)), (6, .int .i64 0), (3, .pointer (some ⟨g1, 0, none⟩)), (2, v)] [(g5, 41, sv PZ), (g4, 23, ks (n / 115792089237316195423570985008687907853269984665640564039457584007913129639936)), (g3, 23, ks (n % 115792089237316195423570985008687907853269984665640564039457584007913129639936)), (g1, 23, ks p)] := H.pick [0, 8, 9, 10, 11, 12, 13] [0, 1, 2, 3] rfl
  refine hK5 _ _ ?_
  clear hK5
  refine wp_cond_true (H.ev rfl) ?_
  refine wp_seq_k (fun K6 hK6 => ?_)
  refine rg_plain ?_
  replace H : St 43 w a W [(28, .bool true), (9, .pointer (some ⟨g5, 0, none⟩)), (8, .pointer (some ⟨g4, 0, none⟩)), (7, .pointer (some ⟨g3, 0, none⟩)), (3, .pointer (some ⟨g1, 0, none⟩)), (2, v)] [(g5, 41, sv PZ), (g4, 23, ks (n / 115792089237316195423570985008687907853269984665640564039457584007913129639936)), (g3, 23, ks (n % 115792089237316195423570985008687907853269984665640564039457584007913129639936)), (g1, 23, ks p)] := H.pick [0, 1, 2, 3, 5, 6] [0, 1, 2, 3] rfl
  refine pl_V (F := fun u_ _ => u_ = .int .i64 8) (ob_val H (wanted_none rfl) (does_assign rfl rfl)) rfl rfl rfl H ?_
  try clear H a W
  rintro _ a W rfl H
  replace H : St 43 w a W [(6, .int .i64 8), (28, .bool true), (9, .pointer (some ⟨g5, 0, none⟩)), (8, .pointer (some ⟨g4, 0, none⟩)), (7, .pointer (some ⟨g3, 0, none⟩)), (3, .pointer (some ⟨g1, 0, none⟩)), (2, v)] [(g5, 41, sv PZ), (g4, 23, ks (n / 115792089237316195423570985008687907853269984665640564039457584007913129639936)), (g3, 23, ks (n % 115792089237316195423570985008687907853269984665640564039457584007913129639936)), (g1, 23, ks p)] := H
  refine pl_end ?_
  replace H : St 43 w a W [(6, .int .i64 8), (9, .pointer (some ⟨g5, 0, none⟩)), (8, .pointer (some ⟨g4, 0, none⟩)), (7, .pointer (some ⟨g3, 0, none⟩)), (3, .pointer (some ⟨g1, 0, none⟩)), (2, v)] [(g5, 41, sv PZ), (g4, 23, ks (n / 115792089237316195423570985008687907853269984665640564039457584007913129639936)), (g3, 23, ks (n % 115792089237316195423570985008687907853269984665640564039457584007913129639936)), (g1, 23, ks p)] := H.pick [0, 2, 3, 4, 5, 6] [0, 1, 2, 3] rfl
  refine hK6 _ _ ?_
  clear hK6
  refine wp_ret ?_
  repeat (first | (with_reducible refine then_ret ?_) | (with_reducible refine blk_ret ?_))
  refine end_tmp (p := 6) rfl rfl H (fun hb => ?_)
  exact ⟨rfl, hb⟩
set_option maxHeartbeats 4000000 in
theorem check_b {v : Value} {p n : Nat} {M : List (List UInt8)} {l : List UInt8} (w : World) (hv : RF M v w) (hl : M.flatten = l) (hfit : Fit M) (hp : p < 115792089237316195423570985008687907853269984665640564039457584007913129639936) (hn : n < 13407807929942597099574024998205846127479365820592393377723561443721764030073546976801874298166903427690031858186486050853753882811946569946433649006084096) (hisp : isPt p = true) (hmay : decide (n / 115792089237316195423570985008687907853269984665640564039457584007913129639936 < LL') = false) (hgl : GL w) : Calls Tryd.prog 6 #[.agg (ks p), .agg (Scl.ls n), v] w (fun rr w' => rr = .returned (.int .i64 8) ∧ Below w.heap.size w w') := by
  obtain ⟨zo, hzo⟩ : ∃ z, z = ptE (ptX p) (ofK p) := ⟨_, rfl⟩
  refine calls_st (vs := [.agg (ks p), .agg (Scl.ls n), v]) 43 Tryd.func6 rfl Tryd.ntmps6 rfl (fun a W H => ?_)
  replace H : St 43 w a W [(0, .agg (ks p)), (1, .agg (Scl.ls n)), (2, v)] [] := H
  refine wp_seq_k (fun K1 hK1 => ?_)
  refine rg_plain ?_
  refine pl_box rfl rfl (bx_key p) rfl rfl rfl rfl H ?_
  try clear H a W
  intro g1 a W H
  refine pl_box rfl rfl (bx_long n) rfl rfl rfl rfl H ?_
  try clear H a W
  intro g2 a W H
  refine pl_V (F := fun u_ _ => u_ = .int .i64 0) (ob_val H (wanted_none rfl) (does_assign rfl rfl)) rfl rfl rfl H ?_
  try clear H a W
  rintro _ a W rfl H
  replace H : St 43 w a W [(6, .int .i64 0), (4, .pointer (some ⟨g2, 0, none⟩)), (3, .pointer (some ⟨g1, 0, none⟩)), (0, .agg (ks p)), (1, .agg (Scl.ls n)), (2, v)] [(g2, 27, Scl.ls n), (g1, 23, ks p)] := H
  refine pl_end ?_
  replace H : St 43 w a W [(6, .int .i64 0), (4, .pointer (some ⟨g2, 0, none⟩)), (3, .pointer (some ⟨g1, 0, none⟩)), (2, v)] [(g2, 27, Scl.ls n), (g1, 23, ks p)] := H.pick [0, 1, 2, 5] [0, 1] rfl
  refine hK1 _ _ ?_
  clear hK1
  refine wp_seq_k (fun K2 hK2 => ?_)
  refine rg_plain ?_
  refine pl_V (F := fun u_ _ => u_ = .agg (Scl.ls n)) (ob_val H (wanted_none rfl) (does_load rfl rfl (k := 0) rfl Tryd.underlying27 rfl (info_ls _))) rfl rfl rfl H ?_
  try clear H a W
  rintro _ a W rfl H
  replace H : St 43 w a W [(13, .agg (Scl.ls n)), (6, .int .i64 0), (4, .pointer (some ⟨g2, 0, none⟩)), (3, .pointer (some ⟨g1, 0, none⟩)), (2, v)] [(g2, 27, Scl.ls n), (g1, 23, ks p)] := H
  refine pl_V (F := fun u_ _ => u_ = .tuple #[.agg (ks (n % 115792089237316195423570985008687907853269984665640564039457584007913129639936)), .agg (ks (n / 115792089237316195423570985008687907853269984665640564039457584007913129639936))]) (ob_cal H (wanted_none rfl) rfl ⟨_, Tryd.func15, by kernel_rfl⟩ rfl (halves_any _ W (hgl.ext H.below))) rfl rfl rfl H ?_
  try clear H a W
  rintro _ a W rfl H
  replace H : St 43 w a W [(14, .tuple #[.agg (ks (n % 115792089237316195423570985008687907853269984665640564039457584007913129639936)), .agg (ks (n / 115792089237316195423570985008687907853269984665640564039457584007913129639936))]), (13, .agg (Scl.ls n)), (6, .int .i64 0), (4, .pointer (some ⟨g2, 0, none⟩)), (3, .pointer (some ⟨g1, 0, none⟩)), (2, v)] [(g2, 27, Scl.ls n), (g1, 23, ks p)] := H
  refine pl_V (F := fun u_ _ => u_ = .tuple #[.agg (ks (n % 115792089237316195423570985008687907853269984665640564039457584007913129639936)), .agg (ks (n / 115792089237316195423570985008687907853269984665640564039457584007913129639936))]) (ob_val H (wanted_none rfl) (does_move rfl rfl)) rfl rfl rfl H ?_
  try clear H a W
  rintro _ a W rfl H
  replace H : St 43 w a W [(12, .tuple #[.agg (ks (n % 115792089237316195423570985008687907853269984665640564039457584007913129639936)), .agg (ks (n / 115792089237316195423570985008687907853269984665640564039457584007913129639936))]), (14, .tuple #[.agg (ks (n % 115792089237316195423570985008687907853269984665640564039457584007913129639936)), .agg (ks (n / 115792089237316195423570985008687907853269984665640564039457584007913129639936))]), (13, .agg (Scl.ls n)), (6, .int .i64 0), (4, .pointer (some ⟨g2, 0, none⟩)), (3, .pointer (some ⟨g1, 0, none⟩)), (2, v)] [(g2, 27, Scl.ls n), (g1, 23, ks p)] := H
  refine pl_V (F := fun u_ _ => u_ = .agg (ks (n % 115792089237316195423570985008687907853269984665640564039457584007913129639936))) (ob_val H (wanted_none rfl) (does_extract rfl rfl (fun _ => rfl))) rfl rfl rfl H ?_
  try clear H a W
  rintro _ a W rfl H
  replace H : St 43 w a W [(15, .agg (ks (n % 115792089237316195423570985008687907853269984665640564039457584007913129639936))), (12, .tuple #[.agg (ks (n % 115792089237316195423570985008687907853269984665640564039457584007913129639936)), .agg (ks (n / 115792089237316195423570985008687907853269984665640564039457584007913129639936))]), (14, .tuple #[.agg (ks (n % 115792089237316195423570985008687907853269984665640564039457584007913129639936)), .agg (ks (n / 115792089237316195423570985008687907853269984665640564039457584007913129639936))]), (13, .agg (Scl.ls n)), (6, .int .i64 0), (4, .pointer (some ⟨g2, 0, none⟩)), (3, .pointer (some ⟨g1, 0, none⟩)), (2, v)] [(g2, 27, Scl.ls n), (g1, 23, ks p)] := H
  refine pl_V (F := fun u_ _ => u_ = .agg (ks (n / 115792089237316195423570985008687907853269984665640564039457584007913129639936))) (ob_val H (wanted_none rfl) (does_extract rfl rfl (fun _ => rfl))) rfl rfl rfl H ?_
  try clear H a W
  rintro _ a W rfl H
  replace H : St 43 w a W [(16, .agg (ks (n / 115792089237316195423570985008687907853269984665640564039457584007913129639936))), (15, .agg (ks (n % 115792089237316195423570985008687907853269984665640564039457584007913129639936))), (12, .tuple #[.agg (ks (n % 115792089237316195423570985008687907853269984665640564039457584007913129639936)), .agg (ks (n / 115792089237316195423570985008687907853269984665640564039457584007913129639936))]), (14, .tuple #[.agg (ks (n % 115792089237316195423570985008687907853269984665640564039457584007913129639936)), .agg (ks (n / 115792089237316195423570985008687907853269984665640564039457584007913129639936))]), (13, .agg (Scl.ls n)), (6, .int .i64 0), (4, .pointer (some ⟨g2, 0, none⟩)), (3, .pointer (some ⟨g1, 0, none⟩)), (2, v)] [(g2, 27, Scl.ls n), (g1, 23, ks p)] := H
  refine pl_new (news_of rfl al_key0) rfl rfl rfl rfl H ?_
  try clear H a W
  intro g3 a W H
  refine pl_new (news_of rfl al_key0) rfl rfl rfl rfl H ?_
  try clear H a W
  intro g4 a W H
  refine pl_store rfl rfl rfl (k := 1) rfl (info_ks _) (by simp only [sv_size, ev_size, ks_size, Scl.ls_size] <;> rfl) (ks_one _) rfl rfl H ?_
  try clear H a W
  intro a W H
  refine pl_store rfl rfl rfl (k := 0) rfl (info_ks _) (by simp only [sv_size, ev_size, ks_size, Scl.ls_size] <;> rfl) (ks_one _) rfl rfl H ?_
  try clear H a W
  intro a W H
  refine pl_end ?_
  replace H : St 43 w a W [(8, .pointer (some ⟨g4, 0, none⟩)), (7, .pointer (some ⟨g3, 0, none⟩)), (6, .int .i64 0), (3, .pointer (some ⟨g1, 0, none⟩)), (2, v)] [(g4, 23, ks (n / 115792089237316195423570985008687907853269984665640564039457584007913129639936)), (g3, 23, ks (n % 115792089237316195423570985008687907853269984665640564039457584007913129639936)), (g1, 23, ks p)] := H.pick [0, 1, 7, 9, 10] [0, 1, 3] rfl
  refine hK2 _ _ ?_
  clear hK2
  refine wp_seq_k (fun K3 hK3 => ?_)
  refine rg_plain ?_
  refine pl_V (F := fun u_ _ => u_ = .agg (ks p)) (ob_val H (wanted_none rfl) (does_load rfl rfl (k := 2) rfl Tryd.underlying23 rfl (info_ks _))) rfl rfl rfl H ?_
  try clear H a W
  rintro _ a W rfl H
  replace H : St 43 w a W [(18, .agg (ks p)), (8, .pointer (some ⟨g4, 0, none⟩)), (7, .pointer (some ⟨g3, 0, none⟩)), (6, .int .i64 0), (3, .pointer (some ⟨g1, 0, none⟩)), (2, v)] [(g4, 23, ks (n / 115792089237316195423570985008687907853269984665640564039457584007913129639936)), (g3, 23, ks (n % 115792089237316195423570985008687907853269984665640564039457584007913129639936)), (g1, 23, ks p)] := H
  refine pl_V (F := fun u_ _ => u_ = .tuple #[.agg (sv zo), .bool true]) (ob_cal H (wanted_none rfl) rfl ⟨_, Tryd.func16, by kernel_rfl⟩ rfl (of_yes_z hp hisp hzo W (hgl.ext H.below).pg)) rfl rfl rfl H ?_
  try clear H a W
  rintro _ a W rfl H
  replace H : St 43 w a W [(19, .tuple #[.agg (sv zo), .bool true]), (18, .agg (ks p)), (8, .pointer (some ⟨g4, 0, none⟩)), (7, .pointer (some ⟨g3, 0, none⟩)), (6, .int .i64 0), (3, .pointer (some ⟨g1, 0, none⟩)), (2, v)] [(g4, 23, ks (n / 115792089237316195423570985008687907853269984665640564039457584007913129639936)), (g3, 23, ks (n % 115792089237316195423570985008687907853269984665640564039457584007913129639936)), (g1, 23, ks p)] := H
  refine pl_V (F := fun u_ _ => u_ = .tuple #[.agg (sv zo), .bool true]) (ob_val H (wanted_none rfl) (does_move rfl rfl)) rfl rfl rfl H ?_
  try clear H a W
  rintro _ a W rfl H
  replace H : St 43 w a W [(17, .tuple #[.agg (sv zo), .bool true]), (19, .tuple #[.agg (sv zo), .bool true]), (18, .agg (ks p)), (8, .pointer (some ⟨g4, 0, none⟩)), (7, .pointer (some ⟨g3, 0, none⟩)), (6, .int .i64 0), (3, .pointer (some ⟨g1, 0, none⟩)), (2, v)] [(g4, 23, ks (n / 115792089237316195423570985008687907853269984665640564039457584007913129639936)), (g3, 23, ks (n % 115792089237316195423570985008687907853269984665640564039457584007913129639936)), (g1, 23, ks p)] := H
  refine pl_V (F := fun u_ _ => u_ = .agg (sv zo)) (ob_val H (wanted_none rfl) (does_extract rfl rfl (fun _ => rfl))) rfl rfl rfl H ?_
  try clear H a W
  rintro _ a W rfl H
  replace H : St 43 w a W [(20, .agg (sv zo)), (17, .tuple #[.agg (sv zo), .bool true]), (19, .tuple #[.agg (sv zo), .bool true]), (18, .agg (ks p)), (8, .pointer (some ⟨g4, 0, none⟩)), (7, .pointer (some ⟨g3, 0, none⟩)), (6, .int .i64 0), (3, .pointer (some ⟨g1, 0, none⟩)), (2, v)] [(g4, 23, ks (n / 115792089237316195423570985008687907853269984665640564039457584007913129639936)), (g3, 23, ks (n % 115792089237316195423570985008687907853269984665640564039457584007913129639936)), (g1, 23, ks p)] := H
  refine pl_V (F := fun u_ _ => u_ = .bool true) (ob_val H (wanted_none rfl) (does_extract rfl rfl (fun _ => rfl))) rfl rfl rfl H ?_
  try clear H a W
  rintro _ a W rfl H
  replace H : St 43 w a W [(21, .bool true), (20, .agg (sv zo)), (17, .tuple #[.agg (sv zo), .bool true]), (19, .tuple #[.agg (sv zo), .bool true]), (18, .agg (ks p)), (8, .pointer (some ⟨g4, 0, none⟩)), (7, .pointer (some ⟨g3, 0, none⟩)), (6, .int .i64 0), (3, .pointer (some ⟨g1, 0, none⟩)), (2, v)] [(g4, 23, ks (n / 115792089237316195423570985008687907853269984665640564039457584007913129639936)), (g3, 23, ks (n % 115792089237316195423570985008687907853269984665640564039457584007913129639936)), (g1, 23, ks p)] := H
  refine pl_new (news_of rfl al_pt) rfl rfl rfl rfl H ?_
  try clear H a W
  intro g5 a W H
  refine pl_store rfl rfl rfl (k := 0) rfl (info_pt _) (by simp only [sv_size, ev_size, ks_size, Scl.ls_size] <;> rfl) (sv_one _) rfl rfl H ?_
  try clear H a W
  intro a W H
  refine pl_V (F := fun u_ _ => u_ = .bool true) (ob_val H (wanted_none rfl) (does_assign rfl rfl)) rfl rfl rfl H ?_
  try clear H a W
  rintro _ a W rfl H
  replace H : St 43 w a W [(10, .bool true), (9, .pointer (some ⟨g5, 0, none⟩)), (21, .bool true), (20, .agg (sv zo)), (17, .tuple #[.agg (sv zo), .bool true]), (19, .tuple #[.agg (sv zo), .bool true]), (18, .agg (ks p)), (8, .pointer (some ⟨g4, 0, none⟩)), (7, .pointer (some ⟨g3, 0, none⟩)), (6, .int .i64 0), (3, .pointer (some ⟨g1, 0, none⟩)), (2, v)] [(g5, 41, sv zo), (g4, 23, ks (n / 115792089237316195423570985008687907853269984665640564039457584007913129639936)), (g3, 23, ks (n % 115792089237316195423570985008687907853269984665640564039457584007913129639936)), (g1, 23, ks p)] := H
  refine pl_end ?_
  replace H : St 43 w a W [(10, .bool true), (9, .pointer (some ⟨g5, 0, none⟩)), (8, .pointer (some ⟨g4, 0, none⟩)), (7, .pointer (some ⟨g3, 0, none⟩)), (6, .int .i64 0), (3, .pointer (some ⟨g1, 0, none⟩)), (2, v)] [(g5, 41, sv zo), (g4, 23, ks (n / 115792089237316195423570985008687907853269984665640564039457584007913129639936)), (g3, 23, ks (n % 115792089237316195423570985008687907853269984665640564039457584007913129639936)), (g1, 23, ks p)] := H.pick [0, 1, 7, 8, 9, 10, 11] [0, 1, 2, 3] rfl
  refine hK3 _ _ ?_
  clear hK3
  refine wp_seq_k (fun K4 hK4 => ?_)
  refine wp_seq_k (fun K5 hK5 => ?_)
  refine rg_plain ?_
  refine pl_V (F := fun u_ _ => u_ = .bool true) (ob_val H (wanted_none rfl) (does_move rfl rfl)) rfl rfl rfl H ?_
  try clear H a W
  rintro _ a W rfl H
  replace H : St 43 w a W [(22, .bool true), (10, .bool true), (9, .pointer (some ⟨g5, 0, none⟩)), (8, .pointer (some ⟨g4, 0, none⟩)), (7, .pointer (some ⟨g3, 0, none⟩)), (6, .int .i64 0), (3, .pointer (some ⟨g1, 0, none⟩)), (2, v)] [(g5, 41, sv zo), (g4, 23, ks (n / 115792089237316195423570985008687907853269984665640564039457584007913129639936)), (g3, 23, ks (n % 115792089237316195423570985008687907853269984665640564039457584007913129639936)), (g1, 23, ks p)] := H
  refine pl_V (F := fun u_ _ => u_ = .bool false) (ob_val H (wanted_none rfl) (does_unOp rfl rfl (fun _ => rfl))) rfl rfl rfl H ?_
  try clear H a W
  rintro _ a W rfl H
  replace H : St 43 w a W [(23, .bool false), (22, .bool true), (10, .bool true), (9, .pointer (some ⟨g5, 0, none⟩)), (8, .pointer (some ⟨g4, 0, none⟩)), (7, .pointer (some ⟨g3, 0, none⟩)), (6, .int .i64 0), (3, .pointer (some ⟨g1, 0, none⟩)), (2, v)] [(g5, 41, sv zo), (g4, 23, ks (n / 115792089237316195423570985008687907853269984665640564039457584007913129639936)), (g3, 23, ks (n % 115792089237316195423570985008687907853269984665640564039457584007913129639936)), (g1, 23, ks p)] := H
  refine pl_V (F := fun u_ _ => u_ = .bool false) (ob_val H (wanted_none rfl) (does_move rfl rfl)) rfl rfl rfl H ?_
  try clear H a W
  rintro _ a W rfl H
  replace H : St 43 w a W [(24, .bool false), (23, .bool false), (22, .bool true), (10, .bool true), (9, .pointer (some ⟨g5, 0, none⟩)), (8, .pointer (some ⟨g4, 0, none⟩)), (7, .pointer (some ⟨g3, 0, none⟩)), (6, .int .i64 0), (3, .pointer (some ⟨g1, 0, none⟩)), (2, v)] [(g5, 41, sv zo), (g4, 23, ks (n / 115792089237316195423570985008687907853269984665640564039457584007913129639936)), (g3, 23, ks (n % 115792089237316195423570985008687907853269984665640564039457584007913129639936)), (g1, 23, ks p)] := H
  refine pl_V (F := fun u_ _ => u_ = .agg (ks (n / 115792089237316195423570985008687907853269984665640564039457584007913129639936))) (ob_val H (wanted_some rfl rfl rfl rfl rfl) (does_load rfl rfl (k := 1) rfl Tryd.underlying23 rfl (info_ks _))) rfl rfl rfl H ?_
  try clear H a W
  rintro _ a W rfl H
  replace H : St 43 w a W [(25, .agg (ks (n / 115792089237316195423570985008687907853269984665640564039457584007913129639936))), (24, .bool false), (23, .bool false), (22, .bool true), (10, .bool true), (9, .pointer (some ⟨g5, 0, none⟩)), (8, .pointer (some ⟨g4, 0, none⟩)), (7, .pointer (some ⟨g3, 0, none⟩)), (6, .int .i64 0), (3, .pointer (some ⟨g1, 0, none⟩)), (2, v)] [(g5, 41, sv zo), (g4, 23, ks (n / 115792089237316195423570985008687907853269984665640564039457584007913129639936)), (g3, 23, ks (n % 115792089237316195423570985008687907853269984665640564039457584007913129639936)), (g1, 23, ks p)] := H
  refine pl_V (F := fun u_ _ => u_ = .bool false) (ob_cal H (wanted_some rfl rfl rfl rfl rfl) rfl ⟨_, Tryd.func17, by kernel_rfl⟩ rfl (mayF hmay (hgl.ext H.below) (hi_lt hn))) rfl rfl rfl H ?_
  try clear H a W
  rintro _ a W rfl H
  replace H : St 43 w a W [(26, .bool false), (25, .agg (ks (n / 115792089237316195423570985008687907853269984665640564039457584007913129639936))), (24, .bool false), (23, .bool false), (22, .bool true), (10, .bool true), (9, .pointer (some ⟨g5, 0, none⟩)), (8, .pointer (some ⟨g4, 0, none⟩)), (7, .pointer (some ⟨g3, 0, none⟩)), (6, .int .i64 0), (3, .pointer (some ⟨g1, 0, none⟩)), (2, v)] [(g5, 41, sv zo), (g4, 23, ks (n / 115792089237316195423570985008687907853269984665640564039457584007913129639936)), (g3, 23, ks (n % 115792089237316195423570985008687907853269984665640564039457584007913129639936)), (g1, 23, ks p)] := H
  refine pl_V (F := fun u_ _ => u_ = .bool true) (ob_val H (wanted_some rfl rfl rfl rfl rfl) (does_unOp rfl rfl (fun _ => rfl))) rfl rfl rfl H ?_
  try clear H a W
  rintro _ a W rfl H
  replace H : St 43 w a W [(27, .bool true), (26, .bool false), (25, .agg (ks (n / 115792089237316195423570985008687907853269984665640564039457584007913129639936))), (24, .bool false), (23, .bool false), (22, .bool true), (10, .bool true), (9, .pointer (some ⟨g5, 0, none⟩)), (8, .pointer (some ⟨g4, 0, none⟩)), (7, .pointer (some ⟨g3, 0, none⟩)), (6, .int .i64 0), (3, .pointer (some ⟨g1, 0, none⟩)), (2, v)] [(g5, 41, sv zo), (g4, 23, ks (n / 115792089237316195423570985008687907853269984665640564039457584007913129639936)), (g3, 23, ks (n % 115792089237316195423570985008687907853269984665640564039457584007913129639936)), (g1, 23, ks p)] := H
  refine pl_V (F := fun u_ _ => u_ = .bool true) (ob_val H (wanted_none rfl) (does_pick rfl rfl (fun hb => by cases hb) (fun _ => rfl))) rfl rfl rfl H ?_
  try clear H a W
  rintro _ a W rfl H
  replace H : St 43 w a W [(28, .bool true), (27, .bool true), (26, .bool false), (25, .agg (ks (n / 115792089237316195423570985008687907853269984665640564039457584007913129639936))), (24, .bool false), (23, .bool false), (22, .bool true), (10, .bool true), (9, .pointer (some ⟨g5, 0, none⟩)), (8, .pointer (some ⟨g4, 0, none⟩)), (7, .pointer (some ⟨g3, 0, none⟩)), (6, .int .i64 0), (3, .pointer (some ⟨g1, 0, none⟩)), (2, v)] [(g5, 41, sv zo), (g4, 23, ks (n / 115792089237316195423570985008687907853269984665640564039457584007913129639936)), (g3, 23, ks (n % 115792089237316195423570985008687907853269984665640564039457584007913129639936)), (g1, 23, ks p)] := H
  refine pl_end ?_
  replace H : St 43 w a W [(28, .bool true), (9, .pointer (some ⟨g5, 0, none⟩)), (8, .pointer (some ⟨g4, 0, none⟩)), (7, .pointer (some ⟨g3, 0, none⟩)), (6, .int .i64 0), (3, .pointer (some ⟨g1, 0, none⟩)), (2, v)] [(g5, 41, sv zo), (g4, 23, ks (n / 115792089237316195423570985008687907853269984665640564039457584007913129639936)), (g3, 23, ks (n % 115792089237316195423570985008687907853269984665640564039457584007913129639936)), (g1, 23, ks p)] := H.pick [0, 8, 9, 10, 11, 12, 13] [0, 1, 2, 3] rfl
  refine hK5 _ _ ?_
  clear hK5
  refine wp_cond_true (H.ev rfl) ?_
  refine wp_seq_k (fun K6 hK6 => ?_)
  refine rg_plain ?_
  replace H : St 43 w a W [(28, .bool true), (9, .pointer (some ⟨g5, 0, none⟩)), (8, .pointer (some ⟨g4, 0, none⟩)), (7, .pointer (some ⟨g3, 0, none⟩)), (3, .pointer (some ⟨g1, 0, none⟩)), (2, v)] [(g5, 41, sv zo), (g4, 23, ks (n / 115792089237316195423570985008687907853269984665640564039457584007913129639936)), (g3, 23, ks (n % 115792089237316195423570985008687907853269984665640564039457584007913129639936)), (g1, 23, ks p)] := H.pick [0, 1, 2, 3, 5, 6] [0, 1, 2, 3] rfl
  refine pl_V (F := fun u_ _ => u_ = .int .i64 8) (ob_val H (wanted_none rfl) (does_assign rfl rfl)) rfl rfl rfl H ?_
  try clear H a W
  rintro _ a W rfl H
  replace H : St 43 w a W [(6, .int .i64 8), (28, .bool true), (9, .pointer (some ⟨g5, 0, none⟩)), (8, .pointer (some ⟨g4, 0, none⟩)), (7, .pointer (some ⟨g3, 0, none⟩)), (3, .pointer (some ⟨g1, 0, none⟩)), (2, v)] [(g5, 41, sv zo), (g4, 23, ks (n / 115792089237316195423570985008687907853269984665640564039457584007913129639936)), (g3, 23, ks (n % 115792089237316195423570985008687907853269984665640564039457584007913129639936)), (g1, 23, ks p)] := H
  refine pl_end ?_
  replace H : St 43 w a W [(6, .int .i64 8), (9, .pointer (some ⟨g5, 0, none⟩)), (8, .pointer (some ⟨g4, 0, none⟩)), (7, .pointer (some ⟨g3, 0, none⟩)), (3, .pointer (some ⟨g1, 0, none⟩)), (2, v)] [(g5, 41, sv zo), (g4, 23, ks (n / 115792089237316195423570985008687907853269984665640564039457584007913129639936)), (g3, 23, ks (n % 115792089237316195423570985008687907853269984665640564039457584007913129639936)), (g1, 23, ks p)] := H.pick [0, 2, 3, 4, 5, 6] [0, 1, 2, 3] rfl
  refine hK6 _ _ ?_
  clear hK6
  refine wp_ret ?_
  repeat (first | (with_reducible refine then_ret ?_) | (with_reducible refine blk_ret ?_))
  refine end_tmp (p := 6) rfl rfl H (fun hb => ?_)
  exact ⟨rfl, hb⟩
set_option maxHeartbeats 4000000 in
theorem check_c {v : Value} {p n : Nat} {M : List (List UInt8)} {l : List UInt8} (w : World) (hv : RF M v w) (hl : M.flatten = l) (hfit : Fit M) (hp : p < 115792089237316195423570985008687907853269984665640564039457584007913129639936) (hn : n < 13407807929942597099574024998205846127479365820592393377723561443721764030073546976801874298166903427690031858186486050853753882811946569946433649006084096) (hisp : isPt p = true) (hmay : decide (n / 115792089237316195423570985008687907853269984665640564039457584007913129639936 < LL') = true) (heq : decide (pbn (chkP p hisp (n / 115792089237316195423570985008687907853269984665640564039457584007913129639936) (sigH (n % 115792089237316195423570985008687907853269984665640564039457584007913129639936) p l)) = n % 115792089237316195423570985008687907853269984665640564039457584007913129639936) = false) (hgl : GL w) : Calls Tryd.prog 6 #[.agg (ks p), .agg (Scl.ls n), v] w (fun rr w' => rr = .returned (.int .i64 8) ∧ Below w.heap.size w w') := by
  obtain ⟨zo, hzo⟩ : ∃ z, z = ptE (ptX p) (ofK p) := ⟨_, rfl⟩
  obtain ⟨z1, hz1⟩ : ∃ z : L4 PP, z = ptMul BE (n / 115792089237316195423570985008687907853269984665640564039457584007913129639936) 256 := ⟨_, rfl⟩
  obtain ⟨z2, hz2⟩ : ∃ z : L4 PP, z = ptNeg zo := ⟨_, rfl⟩
  obtain ⟨z3, hz3⟩ : ∃ z : L4 PP, z = ptMul z2 (sigH (n % 115792089237316195423570985008687907853269984665640564039457584007913129639936) p l) 256 := ⟨_, rfl⟩
  obtain ⟨z4, hz4⟩ : ∃ z : L4 PP, z = ptAdd z1 z3 := ⟨_, rfl⟩
  obtain ⟨mm, hmm⟩ : ∃ m, m = pbn (chkP p hisp (n / 115792089237316195423570985008687907853269984665640564039457584007913129639936) (sigH (n % 115792089237316195423570985008687907853269984665640564039457584007913129639936) p l)) := ⟨_, rfl⟩
  have hrep : RepS (chkP p hisp (n / 115792089237316195423570985008687907853269984665640564039457584007913129639936) (sigH (n % 115792089237316195423570985008687907853269984665640564039457584007913129639936) p l)) z4 := by rw [hz4, hz3, hz2, hz1, hzo]; exact (BE_rep.mul (hi_lt hn)).add (((RepS.of (ptOf p hisp)).neg).mul (sigH_lt _ _ _))
  rw [← hmm] at heq
  refine calls_st (vs := [.agg (ks p), .agg (Scl.ls n), v]) 43 Tryd.func6 rfl Tryd.ntmps6 rfl (fun a W H => ?_)
  replace H : St 43 w a W [(0, .agg (ks p)), (1, .agg (Scl.ls n)), (2, v)] [] := H
  refine wp_seq_k (fun K1 hK1 => ?_)
  refine rg_plain ?_
  refine pl_box rfl rfl (bx_key p) rfl rfl rfl rfl H ?_
  try clear H a W
  intro g1 a W H
  refine pl_box rfl rfl (bx_long n) rfl rfl rfl rfl H ?_
  try clear H a W
  intro g2 a W H
  refine pl_V (F := fun u_ _ => u_ = .int .i64 0) (ob_val H (wanted_none rfl) (does_assign rfl rfl)) rfl rfl rfl H ?_
  try clear H a W
  rintro _ a W rfl H
  replace H : St 43 w a W [(6, .int .i64 0), (4, .pointer (some ⟨g2, 0, none⟩)), (3, .pointer (some ⟨g1, 0, none⟩)), (0, .agg (ks p)), (1, .agg (Scl.ls n)), (2, v)] [(g2, 27, Scl.ls n), (g1, 23, ks p)] := H
  refine pl_end ?_
  replace H : St 43 w a W [(6, .int .i64 0), (4, .pointer (some ⟨g2, 0, none⟩)), (3, .pointer (some ⟨g1, 0, none⟩)), (2, v)] [(g2, 27, Scl.ls n), (g1, 23, ks p)] := H.pick [0, 1, 2, 5] [0, 1] rfl
  refine hK1 _ _ ?_
  clear hK1
  refine wp_seq_k (fun K2 hK2 => ?_)
  refine rg_plain ?_
  refine pl_V (F := fun u_ _ => u_ = .agg (Scl.ls n)) (ob_val H (wanted_none rfl) (does_load rfl rfl (k := 0) rfl Tryd.underlying27 rfl (info_ls _))) rfl rfl rfl H ?_
  try clear H a W
  rintro _ a W rfl H
  replace H : St 43 w a W [(13, .agg (Scl.ls n)), (6, .int .i64 0), (4, .pointer (some ⟨g2, 0, none⟩)), (3, .pointer (some ⟨g1, 0, none⟩)), (2, v)] [(g2, 27, Scl.ls n), (g1, 23, ks p)] := H
  refine pl_V (F := fun u_ _ => u_ = .tuple #[.agg (ks (n % 115792089237316195423570985008687907853269984665640564039457584007913129639936)), .agg (ks (n / 115792089237316195423570985008687907853269984665640564039457584007913129639936))]) (ob_cal H (wanted_none rfl) rfl ⟨_, Tryd.func15, by kernel_rfl⟩ rfl (halves_any _ W (hgl.ext H.below))) rfl rfl rfl H ?_
  try clear H a W
  rintro _ a W rfl H
  replace H : St 43 w a W [(14, .tuple #[.agg (ks (n % 115792089237316195423570985008687907853269984665640564039457584007913129639936)), .agg (ks (n / 115792089237316195423570985008687907853269984665640564039457584007913129639936))]), (13, .agg (Scl.ls n)), (6, .int .i64 0), (4, .pointer (some ⟨g2, 0, none⟩)), (3, .pointer (some ⟨g1, 0, none⟩)), (2, v)] [(g2, 27, Scl.ls n), (g1, 23, ks p)] := H
  refine pl_V (F := fun u_ _ => u_ = .tuple #[.agg (ks (n % 115792089237316195423570985008687907853269984665640564039457584007913129639936)), .agg (ks (n / 115792089237316195423570985008687907853269984665640564039457584007913129639936))]) (ob_val H (wanted_none rfl) (does_move rfl rfl)) rfl rfl rfl H ?_
  try clear H a W
  rintro _ a W rfl H
  replace H : St 43 w a W [(12, .tuple #[.agg (ks (n % 115792089237316195423570985008687907853269984665640564039457584007913129639936)), .agg (ks (n / 115792089237316195423570985008687907853269984665640564039457584007913129639936))]), (14, .tuple #[.agg (ks (n % 115792089237316195423570985008687907853269984665640564039457584007913129639936)), .agg (ks (n / 115792089237316195423570985008687907853269984665640564039457584007913129639936))]), (13, .agg (Scl.ls n)), (6, .int .i64 0), (4, .pointer (some ⟨g2, 0, none⟩)), (3, .pointer (some ⟨g1, 0, none⟩)), (2, v)] [(g2, 27, Scl.ls n), (g1, 23, ks p)] := H
  refine pl_V (F := fun u_ _ => u_ = .agg (ks (n % 115792089237316195423570985008687907853269984665640564039457584007913129639936))) (ob_val H (wanted_none rfl) (does_extract rfl rfl (fun _ => rfl))) rfl rfl rfl H ?_
  try clear H a W
  rintro _ a W rfl H
  replace H : St 43 w a W [(15, .agg (ks (n % 115792089237316195423570985008687907853269984665640564039457584007913129639936))), (12, .tuple #[.agg (ks (n % 115792089237316195423570985008687907853269984665640564039457584007913129639936)), .agg (ks (n / 115792089237316195423570985008687907853269984665640564039457584007913129639936))]), (14, .tuple #[.agg (ks (n % 115792089237316195423570985008687907853269984665640564039457584007913129639936)), .agg (ks (n / 115792089237316195423570985008687907853269984665640564039457584007913129639936))]), (13, .agg (Scl.ls n)), (6, .int .i64 0), (4, .pointer (some ⟨g2, 0, none⟩)), (3, .pointer (some ⟨g1, 0, none⟩)), (2, v)] [(g2, 27, Scl.ls n), (g1, 23, ks p)] := H
  refine pl_V (F := fun u_ _ => u_ = .agg (ks (n / 115792089237316195423570985008687907853269984665640564039457584007913129639936))) (ob_val H (wanted_none rfl) (does_extract rfl rfl (fun _ => rfl))) rfl rfl rfl H ?_
  try clear H a W
  rintro _ a W rfl H
  replace H : St 43 w a W [(16, .agg (ks (n / 115792089237316195423570985008687907853269984665640564039457584007913129639936))), (15, .agg (ks (n % 115792089237316195423570985008687907853269984665640564039457584007913129639936))), (12, .tuple #[.agg (ks (n % 115792089237316195423570985008687907853269984665640564039457584007913129639936)), .agg (ks (n / 115792089237316195423570985008687907853269984665640564039457584007913129639936))]), (14, .tuple #[.agg (ks (n % 115792089237316195423570985008687907853269984665640564039457584007913129639936)), .agg (ks (n / 115792089237316195423570985008687907853269984665640564039457584007913129639936))]), (13, .agg (Scl.ls n)), (6, .int .i64 0), (4, .pointer (some ⟨g2, 0, none⟩)), (3, .pointer (some ⟨g1, 0, none⟩)), (2, v)] [(g2, 27, Scl.ls n), (g1, 23, ks p)] := H
  refine pl_new (news_of rfl al_key0) rfl rfl rfl rfl H ?_
  try clear H a W
  intro g3 a W H
  refine pl_new (news_of rfl al_key0) rfl rfl rfl rfl H ?_
  try clear H a W
  intro g4 a W H
  refine pl_store rfl rfl rfl (k := 1) rfl (info_ks _) (by simp only [sv_size, ev_size, ks_size, Scl.ls_size] <;> rfl) (ks_one _) rfl rfl H ?_
  try clear H a W
  intro a W H
  refine pl_store rfl rfl rfl (k := 0) rfl (info_ks _) (by simp only [sv_size, ev_size, ks_size, Scl.ls_size] <;> rfl) (ks_one _) rfl rfl H ?_
  try clear H a W
  intro a W H
  refine pl_end ?_
  replace H : St 43 w a W [(8, .pointer (some ⟨g4, 0, none⟩)), (7, .pointer (some ⟨g3, 0, none⟩)), (6, .int .i64 0), (3, .pointer (some ⟨g1, 0, none⟩)), (2, v)] [(g4, 23, ks (n / 115792089237316195423570985008687907853269984665640564039457584007913129639936)), (g3, 23, ks (n % 115792089237316195423570985008687907853269984665640564039457584007913129639936)), (g1, 23, ks p)] := H.pick [0, 1, 7, 9, 10] [0, 1, 3] rfl
  refine hK2 _ _ ?_
  clear hK2
  refine wp_seq_k (fun K3 hK3 => ?_)
  refine rg_plain ?_
  refine pl_V (F := fun u_ _ => u_ = .agg (ks p)) (ob_val H (wanted_none rfl) (does_load rfl rfl (k := 2) rfl Tryd.underlying23 rfl (info_ks _))) rfl rfl rfl H ?_
  try clear H a W
  rintro _ a W rfl H
  replace H : St 43 w a W [(18, .agg (ks p)), (8, .pointer (some ⟨g4, 0, none⟩)), (7, .pointer (some ⟨g3, 0, none⟩)), (6, .int .i64 0), (3, .pointer (some ⟨g1, 0, none⟩)), (2, v)] [(g4, 23, ks (n / 115792089237316195423570985008687907853269984665640564039457584007913129639936)), (g3, 23, ks (n % 115792089237316195423570985008687907853269984665640564039457584007913129639936)), (g1, 23, ks p)] := H
  refine pl_V (F := fun u_ _ => u_ = .tuple #[.agg (sv zo), .bool true]) (ob_cal H (wanted_none rfl) rfl ⟨_, Tryd.func16, by kernel_rfl⟩ rfl (of_yes_z hp hisp hzo W (hgl.ext H.below).pg)) rfl rfl rfl H ?_
  try clear H a W
  rintro _ a W rfl H
  replace H : St 43 w a W [(19, .tuple #[.agg (sv zo), .bool true]), (18, .agg (ks p)), (8, .pointer (some ⟨g4, 0, none⟩)), (7, .pointer (some ⟨g3, 0, none⟩)), (6, .int .i64 0), (3, .pointer (some ⟨g1, 0, none⟩)), (2, v)] [(g4, 23, ks (n / 115792089237316195423570985008687907853269984665640564039457584007913129639936)), (g3, 23, ks (n % 115792089237316195423570985008687907853269984665640564039457584007913129639936)), (g1, 23, ks p)] := H
  refine pl_V (F := fun u_ _ => u_ = .tuple #[.agg (sv zo), .bool true]) (ob_val H (wanted_none rfl) (does_move rfl rfl)) rfl rfl rfl H ?_
  try clear H a W
  rintro _ a W rfl H
  replace H : St 43 w a W [(17, .tuple #[.agg (sv zo), .bool true]), (19, .tuple #[.agg (sv zo), .bool true]), (18, .agg (ks p)), (8, .pointer (some ⟨g4, 0, none⟩)), (7, .pointer (some ⟨g3, 0, none⟩)), (6, .int .i64 0), (3, .pointer (some ⟨g1, 0, none⟩)), (2, v)] [(g4, 23, ks (n / 115792089237316195423570985008687907853269984665640564039457584007913129639936)), (g3, 23, ks (n % 115792089237316195423570985008687907853269984665640564039457584007913129639936)), (g1, 23, ks p)] := H
  refine pl_V (F := fun u_ _ => u_ = .agg (sv zo)) (ob_val H (wanted_none rfl) (does_extract rfl rfl (fun _ => rfl))) rfl rfl rfl H ?_
  try clear H a W
  rintro _ a W rfl H
  replace H : St 43 w a W [(20, .agg (sv zo)), (17, .tuple #[.agg (sv zo), .bool true]), (19, .tuple #[.agg (sv zo), .bool true]), (18, .agg (ks p)), (8, .pointer (some ⟨g4, 0, none⟩)), (7, .pointer (some ⟨g3, 0, none⟩)), (6, .int .i64 0), (3, .pointer (some ⟨g1, 0, none⟩)), (2, v)] [(g4, 23, ks (n / 115792089237316195423570985008687907853269984665640564039457584007913129639936)), (g3, 23, ks (n % 115792089237316195423570985008687907853269984665640564039457584007913129639936)), (g1, 23, ks p)] := H
  refine pl_V (F := fun u_ _ => u_ = .bool true) (ob_val H (wanted_none rfl) (does_extract rfl rfl (fun _ => rfl))) rfl rfl rfl H ?_
  try clear H a W
  rintro _ a W rfl H
  replace H : St 43 w a W [(21, .bool true), (20, .agg (sv zo)), (17, .tuple #[.agg (sv zo), .bool true]), (19, .tuple #[.agg (sv zo), .bool true]), (18, .agg (ks p)), (8, .pointer (some ⟨g4, 0, none⟩)), (7, .pointer (some ⟨g3, 0, none⟩)), (6, .int .i64 0), (3, .pointer (some ⟨g1, 0, none⟩)), (2, v)] [(g4, 23, ks (n / 115792089237316195423570985008687907853269984665640564039457584007913129639936)), (g3, 23, ks (n % 115792089237316195423570985008687907853269984665640564039457584007913129639936)), (g1, 23, ks p)] := H
  refine pl_new (news_of rfl al_pt) rfl rfl rfl rfl H ?_
  try clear H a W
  intro g5 a W H
  refine pl_store rfl rfl rfl (k := 0) rfl (info_pt _) (by simp only [sv_size, ev_size, ks_size, Scl.ls_size] <;> rfl) (sv_one _) rfl rfl H ?_
  try clear H a W
  intro a W H
  refine pl_V (F := fun u_ _ => u_ = .bool true) (ob_val H (wanted_none rfl) (does_assign rfl rfl)) rfl rfl rfl H ?_
  try clear H a W
  rintro _ a W rfl H
  replace H : St 43 w a W [(10, .bool true), (9, .pointer (some ⟨g5, 0, none⟩)), (21, .bool true), (20, .agg (sv zo)), (17, .tuple #[.agg (sv zo), .bool true]), (19, .tuple #[.agg (sv zo), .bool true]), (18, .agg (ks p)), (8, .pointer (some ⟨g4, 0, none⟩)), (7, .pointer (some ⟨g3, 0, none⟩)), (6, .int .i64 0), (3, .pointer (some ⟨g1, 0, none⟩)), (2, v)] [(g5, 41, sv zo), (g4, 23, ks (n / 115792089237316195423570985008687907853269984665640564039457584007913129639936)), (g3, 23, ks (n % 115792089237316195423570985008687907853269984665640564039457584007913129639936)), (g1, 23, ks p)] := H
  refine pl_end ?_
  replace H : St 43 w a W [(10, .bool true), (9, .pointer (some ⟨g5, 0, none⟩)), (8, .pointer (some ⟨g4, 0, none⟩)), (7, .pointer (some ⟨g3, 0, none⟩)), (6, .int .i64 0), (3, .pointer (some ⟨g1, 0, none⟩)), (2, v)] [(g5, 41, sv zo), (g4, 23, ks (n / 115792089237316195423570985008687907853269984665640564039457584007913129639936)), (g3, 23, ks (n % 115792089237316195423570985008687907853269984665640564039457584007913129639936)), (g1, 23, ks p)] := H.pick [0, 1, 7, 8, 9, 10, 11] [0, 1, 2, 3] rfl
  refine hK3 _ _ ?_
  clear hK3
  refine wp_seq_k (fun K4 hK4 => ?_)
  refine wp_seq_k (fun K5 hK5 => ?_)
  refine rg_plain ?_
  refine pl_V (F := fun u_ _ => u_ = .bool true) (ob_val H (wanted_none rfl) (does_move rfl rfl)) rfl rfl rfl H ?_
  try clear H a W
  rintro _ a W rfl H
  replace H : St 43 w a W [(22, .bool true), (10, .bool true), (9, .pointer (some ⟨g5, 0, none⟩)), (8, .pointer (some ⟨g4, 0, none⟩)), (7, .pointer (some ⟨g3, 0, none⟩)), (6, .int .i64 0), (3, .pointer (some ⟨g1, 0, none⟩)), (2, v)] [(g5, 41, sv zo), (g4, 23, ks (n / 115792089237316195423570985008687907853269984665640564039457584007913129639936)), (g3, 23, ks (n % 115792089237316195423570985008687907853269984665640564039457584007913129639936)), (g1, 23, ks p)] := H
  refine pl_V (F := fun u_ _ => u_ = .bool false) (ob_val H (wanted_none rfl) (does_unOp rfl rfl (fun _ => rfl))) rfl rfl rfl H ?_
  try clear H a W
  rintro _ a W rfl H
  replace H : St 43 w a W [(23, .bool false), (22, .bool true), (10, .bool true), (9, .pointer (some ⟨g5, 0, none⟩)), (8, .pointer (some ⟨g4, 0, none⟩)), (7, .pointer (some ⟨g3, 0, none⟩)), (6, .int .i64 0), (3, .pointer (some ⟨g1, 0, none⟩)), (2, v)] [(g5, 41, sv zo), (g4, 23, ks (n / 115792089237316195423570985008687907853269984665640564039457584007913129639936)), (g3, 23, ks (n % 115792089237316195423570985008687907853269984665640564039457584007913129639936)), (g1, 23, ks p)] := H
  refine pl_V (F := fun u_ _ => u_ = .bool false) (ob_val H (wanted_none rfl) (does_move rfl rfl)) rfl rfl rfl H ?_
  try clear H a W
  rintro _ a W rfl H
  replace H : St 43 w a W [(24, .bool false), (23, .bool false), (22, .bool true), (10, .bool true), (9, .pointer (some ⟨g5, 0, none⟩)), (8, .pointer (some ⟨g4, 0, none⟩)), (7, .pointer (some ⟨g3, 0, none⟩)), (6, .int .i64 0), (3, .pointer (some ⟨g1, 0, none⟩)), (2, v)] [(g5, 41, sv zo), (g4, 23, ks (n / 115792089237316195423570985008687907853269984665640564039457584007913129639936)), (g3, 23, ks (n % 115792089237316195423570985008687907853269984665640564039457584007913129639936)), (g1, 23, ks p)] := H
  refine pl_V (F := fun u_ _ => u_ = .agg (ks (n / 115792089237316195423570985008687907853269984665640564039457584007913129639936))) (ob_val H (wanted_some rfl rfl rfl rfl rfl) (does_load rfl rfl (k := 1) rfl Tryd.underlying23 rfl (info_ks _))) rfl rfl rfl H ?_
  try clear H a W
  rintro _ a W rfl H
  replace H : St 43 w a W [(25, .agg (ks (n / 115792089237316195423570985008687907853269984665640564039457584007913129639936))), (24, .bool false), (23, .bool false), (22, .bool true), (10, .bool true), (9, .pointer (some ⟨g5, 0, none⟩)), (8, .pointer (some ⟨g4, 0, none⟩)), (7, .pointer (some ⟨g3, 0, none⟩)), (6, .int .i64 0), (3, .pointer (some ⟨g1, 0, none⟩)), (2, v)] [(g5, 41, sv zo), (g4, 23, ks (n / 115792089237316195423570985008687907853269984665640564039457584007913129639936)), (g3, 23, ks (n % 115792089237316195423570985008687907853269984665640564039457584007913129639936)), (g1, 23, ks p)] := H
  refine pl_V (F := fun u_ _ => u_ = .bool true) (ob_cal H (wanted_some rfl rfl rfl rfl rfl) rfl ⟨_, Tryd.func17, by kernel_rfl⟩ rfl (mayF hmay (hgl.ext H.below) (hi_lt hn))) rfl rfl rfl H ?_
  try clear H a W
  rintro _ a W rfl H
  replace H : St 43 w a W [(26, .bool true), (25, .agg (ks (n / 115792089237316195423570985008687907853269984665640564039457584007913129639936))), (24, .bool false), (23, .bool false), (22, .bool true), (10, .bool true), (9, .pointer (some ⟨g5, 0, none⟩)), (8, .pointer (some ⟨g4, 0, none⟩)), (7, .pointer (some ⟨g3, 0, none⟩)), (6, .int .i64 0), (3, .pointer (some ⟨g1, 0, none⟩)), (2, v)] [(g5, 41, sv zo), (g4, 23, ks (n / 115792089237316195423570985008687907853269984665640564039457584007913129639936)), (g3, 23, ks (n % 115792089237316195423570985008687907853269984665640564039457584007913129639936)), (g1, 23, ks p)] := H
  refine pl_V (F := fun u_ _ => u_ = .bool false) (ob_val H (wanted_some rfl rfl rfl rfl rfl) (does_unOp rfl rfl (fun _ => rfl))) rfl rfl rfl H ?_
  try clear H a W
  rintro _ a W rfl H
  replace H : St 43 w a W [(27, .bool false), (26, .bool true), (25, .agg (ks (n / 115792089237316195423570985008687907853269984665640564039457584007913129639936))), (24, .bool false), (23, .bool false), (22, .bool true), (10, .bool true), (9, .pointer (some ⟨g5, 0, none⟩)), (8, .pointer (some ⟨g4, 0, none⟩)), (7, .pointer (some ⟨g3, 0, none⟩)), (6, .int .i64 0), (3, .pointer (some ⟨g1, 0, none⟩)), (2, v)] [(g5, 41, sv zo), (g4, 23, ks (n / 115792089237316195423570985008687907853269984665640564039457584007913129639936)), (g3, 23, ks (n % 115792089237316195423570985008687907853269984665640564039457584007913129639936)), (g1, 23, ks p)] := H
  refine pl_V (F := fun u_ _ => u_ = .bool false) (ob_val H (wanted_none rfl) (does_pick rfl rfl (fun hb => by cases hb) (fun _ => rfl))) rfl rfl rfl H ?_
  try clear H a W
  rintro _ a W rfl H
  replace H : St 43 w a W [(28, .bool false), (27, .bool false), (26, .bool true), (25, .agg (ks (n / 115792089237316195423570985008687907853269984665640564039457584007913129639936))), (24, .bool false), (23, .bool false), (22, .bool true), (10, .bool true), (9, .pointer (some ⟨g5, 0, none⟩)), (8, .pointer (some ⟨g4, 0, none⟩)), (7, .pointer (some ⟨g3, 0, none⟩)), (6, .int .i64 0), (3, .pointer (some ⟨g1, 0, none⟩)), (2, v)] [(g5, 41, sv zo), (g4, 23, ks (n / 115792089237316195423570985008687907853269984665640564039457584007913129639936)), (g3, 23, ks (n % 115792089237316195423570985008687907853269984665640564039457584007913129639936)), (g1, 23, ks p)] := H
  refine pl_end ?_
  replace H : St 43 w a W [(28, .bool false), (9, .pointer (some ⟨g5, 0, none⟩)), (8, .pointer (some ⟨g4, 0, none⟩)), (7, .pointer (some ⟨g3, 0, none⟩)), (6, .int .i64 0), (3, .pointer (some ⟨g1, 0, none⟩)), (2, v)] [(g5, 41, sv zo), (g4, 23, ks (n / 115792089237316195423570985008687907853269984665640564039457584007913129639936)), (g3, 23, ks (n % 115792089237316195423570985008687907853269984665640564039457584007913129639936)), (g1, 23, ks p)] := H.pick [0, 8, 9, 10, 11, 12, 13] [0, 1, 2, 3] rfl
  refine hK5 _ _ ?_
  clear hK5
  refine wp_cond_false (H.ev rfl) ?_
  refine wp_skip ?_
  refine hK4 _ _ ?_
  clear hK4
  refine wp_seq_k (fun K6 hK6 => ?_)
  refine rg_plain ?_
  refine pl_V (F := fun u_ _ => u_ = .agg (ks (n % 115792089237316195423570985008687907853269984665640564039457584007913129639936))) (ob_val H (wanted_none rfl) (does_load rfl rfl (k := 2) rfl Tryd.underlying23 rfl (info_ks _))) rfl rfl rfl H ?_
  try clear H a W
  rintro _ a W rfl H
  replace H : St 43 w a W [(29, .agg (ks (n % 115792089237316195423570985008687907853269984665640564039457584007913129639936))), (28, .bool false), (9, .pointer (some ⟨g5, 0, none⟩)), (8, .pointer (some ⟨g4, 0, none⟩)), (7, .pointer (some ⟨g3, 0, none⟩)), (6, .int .i64 0), (3, .pointer (some ⟨g1, 0, none⟩)), (2, v)] [(g5, 41, sv zo), (g4, 23, ks (n / 115792089237316195423570985008687907853269984665640564039457584007913129639936)), (g3, 23, ks (n % 115792089237316195423570985008687907853269984665640564039457584007913129639936)), (g1, 23, ks p)] := H
  refine pl_V (F := fun u_ _ => u_ = .agg (ks p)) (ob_val H (wanted_none rfl) (does_load rfl rfl (k := 3) rfl Tryd.underlying23 rfl (info_ks _))) rfl rfl rfl H ?_
  try clear H a W
  rintro _ a W rfl H
  replace H : St 43 w a W [(30, .agg (ks p)), (29, .agg (ks (n % 115792089237316195423570985008687907853269984665640564039457584007913129639936))), (28, .bool false), (9, .pointer (some ⟨g5, 0, none⟩)), (8, .pointer (some ⟨g4, 0, none⟩)), (7, .pointer (some ⟨g3, 0, none⟩)), (6, .int .i64 0), (3, .pointer (some ⟨g1, 0, none⟩)), (2, v)] [(g5, 41, sv zo), (g4, 23, ks (n / 115792089237316195423570985008687907853269984665640564039457584007913129639936)), (g3, 23, ks (n % 115792089237316195423570985008687907853269984665640564039457584007913129639936)), (g1, 23, ks p)] := H
  refine pl_V (F := fun u_ _ => u_ = v) (ob_val H (wanted_none rfl) (does_move rfl rfl)) rfl rfl rfl H ?_
  try clear H a W
  intro y_ a W hy_ H
  replace hy_ := hy_.symm
  subst hy_
  replace H : St 43 w a W [(31, v), (30, .agg (ks p)), (29, .agg (ks (n % 115792089237316195423570985008687907853269984665640564039457584007913129639936))), (28, .bool false), (9, .pointer (some ⟨g5, 0, none⟩)), (8, .pointer (some ⟨g4, 0, none⟩)), (7, .pointer (some ⟨g3, 0, none⟩)), (6, .int .i64 0), (3, .pointer (some ⟨g1, 0, none⟩)), (2, v)] [(g5, 41, sv zo), (g4, 23, ks (n / 115792089237316195423570985008687907853269984665640564039457584007913129639936)), (g3, 23, ks (n % 115792089237316195423570985008687907853269984665640564039457584007913129639936)), (g1, 23, ks p)] := H
  refine pl_V (F := fun u_ _ => u_ = .agg (ks (sigH (n % 115792089237316195423570985008687907853269984665640564039457584007913129639936) p l))) (ob_cal H (wanted_none rfl) rfl ⟨_, Tryd.func12, by kernel_rfl⟩ rfl (bound_any W (rf_old hv H) hl hfit (hgl.ext H.below))) rfl rfl rfl H ?_
  try clear H a W
  rintro _ a W rfl H
  replace H : St 43 w a W [(32, .agg (ks (sigH (n % 115792089237316195423570985008687907853269984665640564039457584007913129639936) p l))), (31, v), (30, .agg (ks p)), (29, .agg (ks (n % 115792089237316195423570985008687907853269984665640564039457584007913129639936))), (28, .bool false), (9, .pointer (some ⟨g5, 0, none⟩)), (8, .pointer (some ⟨g4, 0, none⟩)), (7, .pointer (some ⟨g3, 0, none⟩)), (6, .int .i64 0), (3, .pointer (some ⟨g1, 0, none⟩)), (2, v)] [(g5, 41, sv zo), (g4, 23, ks (n / 115792089237316195423570985008687907853269984665640564039457584007913129639936)), (g3, 23, ks (n % 115792089237316195423570985008687907853269984665640564039457584007913129639936)), (g1, 23, ks p)] := H
  refine pl_new (news_of rfl al_key0) rfl rfl rfl rfl H ?_
  try clear H a W
  intro g6 a W H
  refine pl_store rfl rfl rfl (k := 0) rfl (info_ks _) (by simp only [sv_size, ev_size, ks_size, Scl.ls_size] <;> rfl) (ks_one _) rfl rfl H ?_
  try clear H a W
  intro a W H
  refine pl_end ?_
  replace H : St 43 w a W [(11, .pointer (some ⟨g6, 0, none⟩)), (9, .pointer (some ⟨g5, 0, none⟩)), (8, .pointer (some ⟨g4, 0, none⟩)), (7, .pointer (some ⟨g3, 0, none⟩)), (6, .int .i64 0)] [(g6, 23, ks (sigH (n % 115792089237316195423570985008687907853269984665640564039457584007913129639936) p l)), (g5, 41, sv zo), (g4, 23, ks (n / 115792089237316195423570985008687907853269984665640564039457584007913129639936)), (g3, 23, ks (n % 115792089237316195423570985008687907853269984665640564039457584007913129639936))] := H.pick [0, 6, 7, 8, 9] [0, 1, 2, 3] rfl
  refine hK6 _ _ ?_
  clear hK6
  refine wp_seq_k (fun K7 hK7 => ?_)
  refine wp_seq_k (fun K8 hK8 => ?_)
  refine drawnS [.val 33 (.agg (ks (n / 115792089237316195423570985008687907853269984665640564039457584007913129639936))) [] [2], .val 34 (.agg (sv z1)) [0] [], .val 35 (.agg (sv zo)) [] [1], .val 36 (.agg (sv z2)) [2] [], .val 37 (.agg (ks (sigH (n % 115792089237316195423570985008687907853269984665640564039457584007913129639936) p l))) [] [0], .val 38 (.agg (sv z3)) [3, 4] [], .val 39 (.agg (sv z4)) [1, 5] [], .val 40 (.agg (ks mm)) [6] [], .val 41 (.agg (ks (n % 115792089237316195423570985008687907853269984665640564039457584007913129639936))) [] [3], .val 42 (.bool true) [7, 8] []] [0, 1, 0, 6, 0, 24, 34, 64, 0, 384] (by kernel_rfl) (by kernel_rfl) (by kernel_rfl) H ⟨⟨does_load rfl rfl (k := 0) rfl Tryd.underlying23 rfl (info_ks _), wanted_none rfl⟩, ⟨does_call rfl ⟨_, Tryd.func9, by kernel_rfl⟩ rfl (fun W hb => baseF hz1 (hgl.ext hb)), wanted_none rfl⟩, ⟨does_load rfl rfl (k := 0) rfl Tryd.underlying41 rfl (info_pt _), wanted_none rfl⟩, ⟨does_call rfl ⟨_, Tryd.func19, by kernel_rfl⟩ rfl (fun W hb => neg_pt hz2 W (hgl.ext hb).pg), wanted_none rfl⟩, ⟨does_load rfl rfl (k := 0) rfl Tryd.underlying23 rfl (info_ks _), wanted_none rfl⟩, ⟨does_call rfl ⟨_, Tryd.func20, by kernel_rfl⟩ rfl (fun W hb => mul_pt hz3 W (hgl.ext hb).pg), wanted_none rfl⟩, ⟨does_call rfl ⟨_, Tryd.func18, by kernel_rfl⟩ rfl (fun W hb => add_pt hz4 W (hgl.ext hb).pg), wanted_none rfl⟩, ⟨does_call rfl ⟨_, Tryd.func10, by kernel_rfl⟩ rfl (fun W hb => bytes_pt (P := chkP p hisp (n / 115792089237316195423570985008687907853269984665640564039457584007913129639936) (sigH (n % 115792089237316195423570985008687907853269984665640564039457584007913129639936) p l)) hrep hmm W (hgl.ext hb).pg), wanted_none rfl⟩, ⟨does_load rfl rfl (k := 0) rfl Tryd.underlying23 rfl (info_ks _), wanted_none rfl⟩, ⟨does_binOp rfl rfl rfl (sne_key (b := false) (by rw [hmm]; exact pbn_lt _) (lo_lt n) heq _ _), wanted_none rfl⟩, trivial⟩ ?_
  try clear H a W
  intro G7 a W H
  replace H : St 43 w a W [(33, .agg (ks (n / 115792089237316195423570985008687907853269984665640564039457584007913129639936))), (34, .agg (sv z1)), (35, .agg (sv zo)), (36, .agg (sv z2)), (37, .agg (ks (sigH (n % 115792089237316195423570985008687907853269984665640564039457584007913129639936) p l))), (38, .agg (sv z3)), (39, .agg (sv z4)), (40, .agg (ks mm)), (41, .agg (ks (n % 115792089237316195423570985008687907853269984665640564039457584007913129639936))), (42, .bool true), (11, .pointer (some ⟨g6, 0, none⟩)), (9, .pointer (some ⟨g5, 0, none⟩)), (8, .pointer (some ⟨g4, 0, none⟩)), (7, .pointer (some ⟨g3, 0, none⟩)), (6, .int .i64 0)] [(g6, 23, ks (sigH (n % 115792089237316195423570985008687907853269984665640564039457584007913129639936) p l)), (g5, 41, sv zo), (g4, 23, ks (n / 115792089237316195423570985008687907853269984665640564039457584007913129639936)), (g3, 23, ks (n % 115792089237316195423570985008687907853269984665640564039457584007913129639936))] := H
  replace H : St 43 w a W [(42, .bool true), (6, .int .i64 0)] [] := H.pick [9, 14] [] rfl
  refine hK8 _ _ ?_
  clear hK8
  refine wp_cond_true (H.ev rfl) ?_
  refine wp_seq_k (fun K9 hK9 => ?_)
  refine rg_plain ?_
  replace H : St 43 w a W [(42, .bool true)] [] := H.pick [0] [] rfl
  refine pl_V (F := fun u_ _ => u_ = .int .i64 8) (ob_val H (wanted_none rfl) (does_assign rfl rfl)) rfl rfl rfl H ?_
  try clear H a W
  rintro _ a W rfl H
  replace H : St 43 w a W [(6, .int .i64 8), (42, .bool true)] [] := H
  refine pl_end ?_
  replace H : St 43 w a W [(6, .int .i64 8)] [] := H.pick [0] [] rfl
  refine hK9 _ _ ?_
  clear hK9
  refine wp_ret ?_
  repeat (first | (with_reducible refine then_ret ?_) | (with_reducible refine blk_ret ?_))
  refine end_tmp (p := 6) rfl rfl H (fun hb => ?_)
  exact ⟨rfl, hb⟩
set_option maxHeartbeats 4000000 in
theorem check_d {v : Value} {p n : Nat} {M : List (List UInt8)} {l : List UInt8} (w : World) (hv : RF M v w) (hl : M.flatten = l) (hfit : Fit M) (hp : p < 115792089237316195423570985008687907853269984665640564039457584007913129639936) (hn : n < 13407807929942597099574024998205846127479365820592393377723561443721764030073546976801874298166903427690031858186486050853753882811946569946433649006084096) (hisp : isPt p = true) (hmay : decide (n / 115792089237316195423570985008687907853269984665640564039457584007913129639936 < LL') = true) (heq : decide (pbn (chkP p hisp (n / 115792089237316195423570985008687907853269984665640564039457584007913129639936) (sigH (n % 115792089237316195423570985008687907853269984665640564039457584007913129639936) p l)) = n % 115792089237316195423570985008687907853269984665640564039457584007913129639936) = true) (hgl : GL w) : Calls Tryd.prog 6 #[.agg (ks p), .agg (Scl.ls n), v] w (fun rr w' => rr = .returned (.int .i64 0) ∧ Below w.heap.size w w') := by
  obtain ⟨zo, hzo⟩ : ∃ z, z = ptE (ptX p) (ofK p) := ⟨_, rfl⟩
  obtain ⟨z1, hz1⟩ : ∃ z : L4 PP, z = ptMul BE (n / 115792089237316195423570985008687907853269984665640564039457584007913129639936) 256 := ⟨_, rfl⟩
  obtain ⟨z2, hz2⟩ : ∃ z : L4 PP, z = ptNeg zo := ⟨_, rfl⟩
  obtain ⟨z3, hz3⟩ : ∃ z : L4 PP, z = ptMul z2 (sigH (n % 115792089237316195423570985008687907853269984665640564039457584007913129639936) p l) 256 := ⟨_, rfl⟩
  obtain ⟨z4, hz4⟩ : ∃ z : L4 PP, z = ptAdd z1 z3 := ⟨_, rfl⟩
  obtain ⟨mm, hmm⟩ : ∃ m, m = pbn (chkP p hisp (n / 115792089237316195423570985008687907853269984665640564039457584007913129639936) (sigH (n % 115792089237316195423570985008687907853269984665640564039457584007913129639936) p l)) := ⟨_, rfl⟩
  have hrep : RepS (chkP p hisp (n / 115792089237316195423570985008687907853269984665640564039457584007913129639936) (sigH (n % 115792089237316195423570985008687907853269984665640564039457584007913129639936) p l)) z4 := by rw [hz4, hz3, hz2, hz1, hzo]; exact (BE_rep.mul (hi_lt hn)).add (((RepS.of (ptOf p hisp)).neg).mul (sigH_lt _ _ _))
  rw [← hmm] at heq
  refine calls_st (vs := [.agg (ks p), .agg (Scl.ls n), v]) 43 Tryd.func6 rfl Tryd.ntmps6 rfl (fun a W H => ?_)
  replace H : St 43 w a W [(0, .agg (ks p)), (1, .agg (Scl.ls n)), (2, v)] [] := H
  refine wp_seq_k (fun K1 hK1 => ?_)
  refine rg_plain ?_
  refine pl_box rfl rfl (bx_key p) rfl rfl rfl rfl H ?_
  try clear H a W
  intro g1 a W H
  refine pl_box rfl rfl (bx_long n) rfl rfl rfl rfl H ?_
  try clear H a W
  intro g2 a W H
  refine pl_V (F := fun u_ _ => u_ = .int .i64 0) (ob_val H (wanted_none rfl) (does_assign rfl rfl)) rfl rfl rfl H ?_
  try clear H a W
  rintro _ a W rfl H
  replace H : St 43 w a W [(6, .int .i64 0), (4, .pointer (some ⟨g2, 0, none⟩)), (3, .pointer (some ⟨g1, 0, none⟩)), (0, .agg (ks p)), (1, .agg (Scl.ls n)), (2, v)] [(g2, 27, Scl.ls n), (g1, 23, ks p)] := H
  refine pl_end ?_
  replace H : St 43 w a W [(6, .int .i64 0), (4, .pointer (some ⟨g2, 0, none⟩)), (3, .pointer (some ⟨g1, 0, none⟩)), (2, v)] [(g2, 27, Scl.ls n), (g1, 23, ks p)] := H.pick [0, 1, 2, 5] [0, 1] rfl
  refine hK1 _ _ ?_
  clear hK1
  refine wp_seq_k (fun K2 hK2 => ?_)
  refine rg_plain ?_
  refine pl_V (F := fun u_ _ => u_ = .agg (Scl.ls n)) (ob_val H (wanted_none rfl) (does_load rfl rfl (k := 0) rfl Tryd.underlying27 rfl (info_ls _))) rfl rfl rfl H ?_
  try clear H a W
  rintro _ a W rfl H
  replace H : St 43 w a W [(13, .agg (Scl.ls n)), (6, .int .i64 0), (4, .pointer (some ⟨g2, 0, none⟩)), (3, .pointer (some ⟨g1, 0, none⟩)), (2, v)] [(g2, 27, Scl.ls n), (g1, 23, ks p)] := H
  refine pl_V (F := fun u_ _ => u_ = .tuple #[.agg (ks (n % 115792089237316195423570985008687907853269984665640564039457584007913129639936)), .agg (ks (n / 115792089237316195423570985008687907853269984665640564039457584007913129639936))]) (ob_cal H (wanted_none rfl) rfl ⟨_, Tryd.func15, by kernel_rfl⟩ rfl (halves_any _ W (hgl.ext H.below))) rfl rfl rfl H ?_
  try clear H a W
  rintro _ a W rfl H
  replace H : St 43 w a W [(14, .tuple #[.agg (ks (n % 115792089237316195423570985008687907853269984665640564039457584007913129639936)), .agg (ks (n / 115792089237316195423570985008687907853269984665640564039457584007913129639936))]), (13, .agg (Scl.ls n)), (6, .int .i64 0), (4, .pointer (some ⟨g2, 0, none⟩)), (3, .pointer (some ⟨g1, 0, none⟩)), (2, v)] [(g2, 27, Scl.ls n), (g1, 23, ks p)] := H
  refine pl_V (F := fun u_ _ => u_ = .tuple #[.agg (ks (n % 115792089237316195423570985008687907853269984665640564039457584007913129639936)), .agg (ks (n / 115792089237316195423570985008687907853269984665640564039457584007913129639936))]) (ob_val H (wanted_none rfl) (does_move rfl rfl)) rfl rfl rfl H ?_
  try clear H a W
  rintro _ a W rfl H
  replace H : St 43 w a W [(12, .tuple #[.agg (ks (n % 115792089237316195423570985008687907853269984665640564039457584007913129639936)), .agg (ks (n / 115792089237316195423570985008687907853269984665640564039457584007913129639936))]), (14, .tuple #[.agg (ks (n % 115792089237316195423570985008687907853269984665640564039457584007913129639936)), .agg (ks (n / 115792089237316195423570985008687907853269984665640564039457584007913129639936))]), (13, .agg (Scl.ls n)), (6, .int .i64 0), (4, .pointer (some ⟨g2, 0, none⟩)), (3, .pointer (some ⟨g1, 0, none⟩)), (2, v)] [(g2, 27, Scl.ls n), (g1, 23, ks p)] := H
  refine pl_V (F := fun u_ _ => u_ = .agg (ks (n % 115792089237316195423570985008687907853269984665640564039457584007913129639936))) (ob_val H (wanted_none rfl) (does_extract rfl rfl (fun _ => rfl))) rfl rfl rfl H ?_
  try clear H a W
  rintro _ a W rfl H
  replace H : St 43 w a W [(15, .agg (ks (n % 115792089237316195423570985008687907853269984665640564039457584007913129639936))), (12, .tuple #[.agg (ks (n % 115792089237316195423570985008687907853269984665640564039457584007913129639936)), .agg (ks (n / 115792089237316195423570985008687907853269984665640564039457584007913129639936))]), (14, .tuple #[.agg (ks (n % 115792089237316195423570985008687907853269984665640564039457584007913129639936)), .agg (ks (n / 115792089237316195423570985008687907853269984665640564039457584007913129639936))]), (13, .agg (Scl.ls n)), (6, .int .i64 0), (4, .pointer (some ⟨g2, 0, none⟩)), (3, .pointer (some ⟨g1, 0, none⟩)), (2, v)] [(g2, 27, Scl.ls n), (g1, 23, ks p)] := H
  refine pl_V (F := fun u_ _ => u_ = .agg (ks (n / 115792089237316195423570985008687907853269984665640564039457584007913129639936))) (ob_val H (wanted_none rfl) (does_extract rfl rfl (fun _ => rfl))) rfl rfl rfl H ?_
  try clear H a W
  rintro _ a W rfl H
  replace H : St 43 w a W [(16, .agg (ks (n / 115792089237316195423570985008687907853269984665640564039457584007913129639936))), (15, .agg (ks (n % 115792089237316195423570985008687907853269984665640564039457584007913129639936))), (12, .tuple #[.agg (ks (n % 115792089237316195423570985008687907853269984665640564039457584007913129639936)), .agg (ks (n / 115792089237316195423570985008687907853269984665640564039457584007913129639936))]), (14, .tuple #[.agg (ks (n % 115792089237316195423570985008687907853269984665640564039457584007913129639936)), .agg (ks (n / 115792089237316195423570985008687907853269984665640564039457584007913129639936))]), (13, .agg (Scl.ls n)), (6, .int .i64 0), (4, .pointer (some ⟨g2, 0, none⟩)), (3, .pointer (some ⟨g1, 0, none⟩)), (2, v)] [(g2, 27, Scl.ls n), (g1, 23, ks p)] := H
  refine pl_new (news_of rfl al_key0) rfl rfl rfl rfl H ?_
  try clear H a W
  intro g3 a W H
  refine pl_new (news_of rfl al_key0) rfl rfl rfl rfl H ?_
  try clear H a W
  intro g4 a W H
  refine pl_store rfl rfl rfl (k := 1) rfl (info_ks _) (by simp only [sv_size, ev_size, ks_size, Scl.ls_size] <;> rfl) (ks_one _) rfl rfl H ?_
  try clear H a W
  intro a W H
  refine pl_store rfl rfl rfl (k := 0) rfl (info_ks _) (by simp only [sv_size, ev_size, ks_size, Scl.ls_size] <;> rfl) (ks_one _) rfl rfl H ?_
  try clear H a W
  intro a W H
  refine pl_end ?_
  replace H : St 43 w a W [(8, .pointer (some ⟨g4, 0, none⟩)), (7, .pointer (some ⟨g3, 0, none⟩)), (6, .int .i64 0), (3, .pointer (some ⟨g1, 0, none⟩)), (2, v)] [(g4, 23, ks (n / 115792089237316195423570985008687907853269984665640564039457584007913129639936)), (g3, 23, ks (n % 115792089237316195423570985008687907853269984665640564039457584007913129639936)), (g1, 23, ks p)] := H.pick [0, 1, 7, 9, 10] [0, 1, 3] rfl
  refine hK2 _ _ ?_
  clear hK2
  refine wp_seq_k (fun K3 hK3 => ?_)
  refine rg_plain ?_
  refine pl_V (F := fun u_ _ => u_ = .agg (ks p)) (ob_val H (wanted_none rfl) (does_load rfl rfl (k := 2) rfl Tryd.underlying23 rfl (info_ks _))) rfl rfl rfl H ?_
  try clear H a W
  rintro _ a W rfl H
  replace H : St 43 w a W [(18, .agg (ks p)), (8, .pointer (some ⟨g4, 0, none⟩)), (7, .pointer (some ⟨g3, 0, none⟩)), (6, .int .i64 0), (3, .pointer (some ⟨g1, 0, none⟩)), (2, v)] [(g4, 23, ks (n / 115792089237316195423570985008687907853269984665640564039457584007913129639936)), (g3, 23, ks (n % 115792089237316195423570985008687907853269984665640564039457584007913129639936)), (g1, 23, ks p)] := H
  refine pl_V (F := fun u_ _ => u_ = .tuple #[.agg (sv zo), .bool true]) (ob_cal H (wanted_none rfl) rfl ⟨_, Tryd.func16, by kernel_rfl⟩ rfl (of_yes_z hp hisp hzo W (hgl.ext H.below).pg)) rfl rfl rfl H ?_
  try clear H a W
  rintro _ a W rfl H
  replace H : St 43 w a W [(19, .tuple #[.agg (sv zo), .bool true]), (18, .agg (ks p)), (8, .pointer (some ⟨g4, 0, none⟩)), (7, .pointer (some ⟨g3, 0, none⟩)), (6, .int .i64 0), (3, .pointer (some ⟨g1, 0, none⟩)), (2, v)] [(g4, 23, ks (n / 115792089237316195423570985008687907853269984665640564039457584007913129639936)), (g3, 23, ks (n % 115792089237316195423570985008687907853269984665640564039457584007913129639936)), (g1, 23, ks p)] := H
  refine pl_V (F := fun u_ _ => u_ = .tuple #[.agg (sv zo), .bool true]) (ob_val H (wanted_none rfl) (does_move rfl rfl)) rfl rfl rfl H ?_
  try clear H a W
  rintro _ a W rfl H
  replace H : St 43 w a W [(17, .tuple #[.agg (sv zo), .bool true]), (19, .tuple #[.agg (sv zo), .bool true]), (18, .agg (ks p)), (8, .pointer (some ⟨g4, 0, none⟩)), (7, .pointer (some ⟨g3, 0, none⟩)), (6, .int .i64 0), (3, .pointer (some ⟨g1, 0, none⟩)), (2, v)] [(g4, 23, ks (n / 115792089237316195423570985008687907853269984665640564039457584007913129639936)), (g3, 23, ks (n % 115792089237316195423570985008687907853269984665640564039457584007913129639936)), (g1, 23, ks p)] := H
  refine pl_V (F := fun u_ _ => u_ = .agg (sv zo)) (ob_val H (wanted_none rfl) (does_extract rfl rfl (fun _ => rfl))) rfl rfl rfl H ?_
  try clear H a W
  rintro _ a W rfl H
  replace H : St 43 w a W [(20, .agg (sv zo)), (17, .tuple #[.agg (sv zo), .bool true]), (19, .tuple #[.agg (sv zo), .bool true]), (18, .agg (ks p)), (8, .pointer (some ⟨g4, 0, none⟩)), (7, .pointer (some ⟨g3, 0, none⟩)), (6, .int .i64 0), (3, .pointer (some ⟨g1, 0, none⟩)), (2, v)] [(g4, 23, ks (n / 115792089237316195423570985008687907853269984665640564039457584007913129639936)), (g3, 23, ks (n % 115792089237316195423570985008687907853269984665640564039457584007913129639936)), (g1, 23, ks p)] := H
  refine pl_V (F := fun u_ _ => u_ = .bool true) (ob_val H (wanted_none rfl) (does_extract rfl rfl (fun _ => rfl))) rfl rfl rfl H ?_
  try clear H a W
  rintro _ a W rfl H
  replace H : St 43 w a W [(21, .bool true), (20, .agg (sv zo)), (17, .tuple #[.agg (sv zo), .bool true]), (19, .tuple #[.agg (sv zo), .bool true]), (18, .agg (ks p)), (8, .pointer (some ⟨g4, 0, none⟩)), (7, .pointer (some ⟨g3, 0, none⟩)), (6, .int .i64 0), (3, .pointer (some ⟨g1, 0, none⟩)), (2, v)] [(g4, 23, ks (n / 115792089237316195423570985008687907853269984665640564039457584007913129639936)), (g3, 23, ks (n % 115792089237316195423570985008687907853269984665640564039457584007913129639936)), (g1, 23, ks p)] := H
  refine pl_new (news_of rfl al_pt) rfl rfl rfl rfl H ?_
  try clear H a W
  intro g5 a W H
  refine pl_store rfl rfl rfl (k := 0) rfl (info_pt _) (by simp only [sv_size, ev_size, ks_size, Scl.ls_size] <;> rfl) (sv_one _) rfl rfl H ?_
  try clear H a W
  intro a W H
  refine pl_V (F := fun u_ _ => u_ = .bool true) (ob_val H (wanted_none rfl) (does_assign rfl rfl)) rfl rfl rfl H ?_
  try clear H a W
  rintro _ a W rfl H
  replace H : St 43 w a W [(10, .bool true), (9, .pointer (some ⟨g5, 0, none⟩)), (21, .bool true), (20, .agg (sv zo)), (17, .tuple #[.agg (sv zo), .bool true]), (19, .tuple #[.agg (sv zo), .bool true]), (18, .agg (ks p)), (8, .pointer (some ⟨g4, 0, none⟩)), (7, .pointer (some ⟨g3, 0, none⟩)), (6, .int .i64 0), (3, .pointer (some ⟨g1, 0, none⟩)), (2, v)] [(g5, 41, sv zo), (g4, 23, ks (n / 115792089237316195423570985008687907853269984665640564039457584007913129639936)), (g3, 23, ks (n % 115792089237316195423570985008687907853269984665640564039457584007913129639936)), (g1, 23, ks p)] := H
  refine pl_end ?_
  replace H : St 43 w a W [(10, .bool true), (9, .pointer (some ⟨g5, 0, none⟩)), (8, .pointer (some ⟨g4, 0, none⟩)), (7, .pointer (some ⟨g3, 0, none⟩)), (6, .int .i64 0), (3, .pointer (some ⟨g1, 0, none⟩)), (2, v)] [(g5, 41, sv zo), (g4, 23, ks (n / 115792089237316195423570985008687907853269984665640564039457584007913129639936)), (g3, 23, ks (n % 115792089237316195423570985008687907853269984665640564039457584007913129639936)), (g1, 23, ks p)] := H.pick [0, 1, 7, 8, 9, 10, 11] [0, 1, 2, 3] rfl
  refine hK3 _ _ ?_
  clear hK3
  refine wp_seq_k (fun K4 hK4 => ?_)
  refine wp_seq_k (fun K5 hK5 => ?_)
  refine rg_plain ?_
  refine pl_V (F := fun u_ _ => u_ = .bool true) (ob_val H (wanted_none rfl) (does_move rfl rfl)) rfl rfl rfl H ?_
  try clear H a W
  rintro _ a W rfl H
  replace H : St 43 w a W [(22, .bool true), (10, .bool true), (9, .pointer (some ⟨g5, 0, none⟩)), (8, .pointer (some ⟨g4, 0, none⟩)), (7, .pointer (some ⟨g3, 0, none⟩)), (6, .int .i64 0), (3, .pointer (some ⟨g1, 0, none⟩)), (2, v)] [(g5, 41, sv zo), (g4, 23, ks (n / 115792089237316195423570985008687907853269984665640564039457584007913129639936)), (g3, 23, ks (n % 115792089237316195423570985008687907853269984665640564039457584007913129639936)), (g1, 23, ks p)] := H
  refine pl_V (F := fun u_ _ => u_ = .bool false) (ob_val H (wanted_none rfl) (does_unOp rfl rfl (fun _ => rfl))) rfl rfl rfl H ?_
  try clear H a W
  rintro _ a W rfl H
  replace H : St 43 w a W [(23, .bool false), (22, .bool true), (10, .bool true), (9, .pointer (some ⟨g5, 0, none⟩)), (8, .pointer (some ⟨g4, 0, none⟩)), (7, .pointer (some ⟨g3, 0, none⟩)), (6, .int .i64 0), (3, .pointer (some ⟨g1, 0, none⟩)), (2, v)] [(g5, 41, sv zo), (g4, 23, ks (n / 115792089237316195423570985008687907853269984665640564039457584007913129639936)), (g3, 23, ks (n % 115792089237316195423570985008687907853269984665640564039457584007913129639936)), (g1, 23, ks p)] := H
  refine pl_V (F := fun u_ _ => u_ = .bool false) (ob_val H (wanted_none rfl) (does_move rfl rfl)) rfl rfl rfl H ?_
  try clear H a W
  rintro _ a W rfl H
  replace H : St 43 w a W [(24, .bool false), (23, .bool false), (22, .bool true), (10, .bool true), (9, .pointer (some ⟨g5, 0, none⟩)), (8, .pointer (some ⟨g4, 0, none⟩)), (7, .pointer (some ⟨g3, 0, none⟩)), (6, .int .i64 0), (3, .pointer (some ⟨g1, 0, none⟩)), (2, v)] [(g5, 41, sv zo), (g4, 23, ks (n / 115792089237316195423570985008687907853269984665640564039457584007913129639936)), (g3, 23, ks (n % 115792089237316195423570985008687907853269984665640564039457584007913129639936)), (g1, 23, ks p)] := H
  refine pl_V (F := fun u_ _ => u_ = .agg (ks (n / 115792089237316195423570985008687907853269984665640564039457584007913129639936))) (ob_val H (wanted_some rfl rfl rfl rfl rfl) (does_load rfl rfl (k := 1) rfl Tryd.underlying23 rfl (info_ks _))) rfl rfl rfl H ?_
  try clear H a W
  rintro _ a W rfl H
  replace H : St 43 w a W [(25, .agg (ks (n / 115792089237316195423570985008687907853269984665640564039457584007913129639936))), (24, .bool false), (23, .bool false), (22, .bool true), (10, .bool true), (9, .pointer (some ⟨g5, 0, none⟩)), (8, .pointer (some ⟨g4, 0, none⟩)), (7, .pointer (some ⟨g3, 0, none⟩)), (6, .int .i64 0), (3, .pointer (some ⟨g1, 0, none⟩)), (2, v)] [(g5, 41, sv zo), (g4, 23, ks (n / 115792089237316195423570985008687907853269984665640564039457584007913129639936)), (g3, 23, ks (n % 115792089237316195423570985008687907853269984665640564039457584007913129639936)), (g1, 23, ks p)] := H
  refine pl_V (F := fun u_ _ => u_ = .bool true) (ob_cal H (wanted_some rfl rfl rfl rfl rfl) rfl ⟨_, Tryd.func17, by kernel_rfl⟩ rfl (mayF hmay (hgl.ext H.below) (hi_lt hn))) rfl rfl rfl H ?_
  try clear H a W
  rintro _ a W rfl H
  replace H : St 43 w a W [(26, .bool true), (25, .agg (ks (n / 115792089237316195423570985008687907853269984665640564039457584007913129639936))), (24, .bool false), (23, .bool false), (22, .bool true), (10, .bool true), (9, .pointer (some ⟨g5, 0, none⟩)), (8, .pointer (some ⟨g4, 0, none⟩)), (7, .pointer (some ⟨g3, 0, none⟩)), (6, .int .i64 0), (3, .pointer (some ⟨g1, 0, none⟩)), (2, v)] [(g5, 41, sv zo), (g4, 23, ks (n / 115792089237316195423570985008687907853269984665640564039457584007913129639936)), (g3, 23, ks (n % 115792089237316195423570985008687907853269984665640564039457584007913129639936)), (g1, 23, ks p)] := H
  refine pl_V (F := fun u_ _ => u_ = .bool false) (ob_val H (wanted_some rfl rfl rfl rfl rfl) (does_unOp rfl rfl (fun _ => rfl))) rfl rfl rfl H ?_
  try clear H a W
  rintro _ a W rfl H
  replace H : St 43 w a W [(27, .bool false), (26, .bool true), (25, .agg (ks (n / 115792089237316195423570985008687907853269984665640564039457584007913129639936))), (24, .bool false), (23, .bool false), (22, .bool true), (10, .bool true), (9, .pointer (some ⟨g5, 0, none⟩)), (8, .pointer (some ⟨g4, 0, none⟩)), (7, .pointer (some ⟨g3, 0, none⟩)), (6, .int .i64 0), (3, .pointer (some ⟨g1, 0, none⟩)), (2, v)] [(g5, 41, sv zo), (g4, 23, ks (n / 115792089237316195423570985008687907853269984665640564039457584007913129639936)), (g3, 23, ks (n % 115792089237316195423570985008687907853269984665640564039457584007913129639936)), (g1, 23, ks p)] := H
  refine pl_V (F := fun u_ _ => u_ = .bool false) (ob_val H (wanted_none rfl) (does_pick rfl rfl (fun hb => by cases hb) (fun _ => rfl))) rfl rfl rfl H ?_
  try clear H a W
  rintro _ a W rfl H
  replace H : St 43 w a W [(28, .bool false), (27, .bool false), (26, .bool true), (25, .agg (ks (n / 115792089237316195423570985008687907853269984665640564039457584007913129639936))), (24, .bool false), (23, .bool false), (22, .bool true), (10, .bool true), (9, .pointer (some ⟨g5, 0, none⟩)), (8, .pointer (some ⟨g4, 0, none⟩)), (7, .pointer (some ⟨g3, 0, none⟩)), (6, .int .i64 0), (3, .pointer (some ⟨g1, 0, none⟩)), (2, v)] [(g5, 41, sv zo), (g4, 23, ks (n / 115792089237316195423570985008687907853269984665640564039457584007913129639936)), (g3, 23, ks (n % 115792089237316195423570985008687907853269984665640564039457584007913129639936)), (g1, 23, ks p)] := H
  refine pl_end ?_
  replace H : St 43 w a W [(28, .bool false), (9, .pointer (some ⟨g5, 0, none⟩)), (8, .pointer (some ⟨g4, 0, none⟩)), (7, .pointer (some ⟨g3, 0, none⟩)), (6, .int .i64 0), (3, .pointer (some ⟨g1, 0, none⟩)), (2, v)] [(g5, 41, sv zo), (g4, 23, ks (n / 115792089237316195423570985008687907853269984665640564039457584007913129639936)), (g3, 23, ks (n % 115792089237316195423570985008687907853269984665640564039457584007913129639936)), (g1, 23, ks p)] := H.pick [0, 8, 9, 10, 11, 12, 13] [0, 1, 2, 3] rfl
  refine hK5 _ _ ?_
  clear hK5
  refine wp_cond_false (H.ev rfl) ?_
  refine wp_skip ?_
  refine hK4 _ _ ?_
  clear hK4
  refine wp_seq_k (fun K6 hK6 => ?_)
  refine rg_plain ?_
  refine pl_V (F := fun u_ _ => u_ = .agg (ks (n % 115792089237316195423570985008687907853269984665640564039457584007913129639936))) (ob_val H (wanted_none rfl) (does_load rfl rfl (k := 2) rfl Tryd.underlying23 rfl (info_ks _))) rfl rfl rfl H ?_
  try clear H a W
  rintro _ a W rfl H
  replace H : St 43 w a W [(29, .agg (ks (n % 115792089237316195423570985008687907853269984665640564039457584007913129639936))), (28, .bool false), (9, .pointer (some ⟨g5, 0, none⟩)), (8, .pointer (some ⟨g4, 0, none⟩)), (7, .pointer (some ⟨g3, 0, none⟩)), (6, .int .i64 0), (3, .pointer (some ⟨g1, 0, none⟩)), (2, v)] [(g5, 41, sv zo), (g4, 23, ks (n / 115792089237316195423570985008687907853269984665640564039457584007913129639936)), (g3, 23, ks (n % 115792089237316195423570985008687907853269984665640564039457584007913129639936)), (g1, 23, ks p)] := H
  refine pl_V (F := fun u_ _ => u_ = .agg (ks p)) (ob_val H (wanted_none rfl) (does_load rfl rfl (k := 3) rfl Tryd.underlying23 rfl (info_ks _))) rfl rfl rfl H ?_
  try clear H a W
  rintro _ a W rfl H
  replace H : St 43 w a W [(30, .agg (ks p)), (29, .agg (ks (n % 115792089237316195423570985008687907853269984665640564039457584007913129639936))), (28, .bool false), (9, .pointer (some ⟨g5, 0, none⟩)), (8, .pointer (some ⟨g4, 0, none⟩)), (7, .pointer (some ⟨g3, 0, none⟩)), (6, .int .i64 0), (3, .pointer (some ⟨g1, 0, none⟩)), (2, v)] [(g5, 41, sv zo), (g4, 23, ks (n / 115792089237316195423570985008687907853269984665640564039457584007913129639936)), (g3, 23, ks (n % 115792089237316195423570985008687907853269984665640564039457584007913129639936)), (g1, 23, ks p)] := H
  refine pl_V (F := fun u_ _ => u_ = v) (ob_val H (wanted_none rfl) (does_move rfl rfl)) rfl rfl rfl H ?_
  try clear H a W
  intro y_ a W hy_ H
  replace hy_ := hy_.symm
  subst hy_
  replace H : St 43 w a W [(31, v), (30, .agg (ks p)), (29, .agg (ks (n % 115792089237316195423570985008687907853269984665640564039457584007913129639936))), (28, .bool false), (9, .pointer (some ⟨g5, 0, none⟩)), (8, .pointer (some ⟨g4, 0, none⟩)), (7, .pointer (some ⟨g3, 0, none⟩)), (6, .int .i64 0), (3, .pointer (some ⟨g1, 0, none⟩)), (2, v)] [(g5, 41, sv zo), (g4, 23, ks (n / 115792089237316195423570985008687907853269984665640564039457584007913129639936)), (g3, 23, ks (n % 115792089237316195423570985008687907853269984665640564039457584007913129639936)), (g1, 23, ks p)] := H
  refine pl_V (F := fun u_ _ => u_ = .agg (ks (sigH (n % 115792089237316195423570985008687907853269984665640564039457584007913129639936) p l))) (ob_cal H (wanted_none rfl) rfl ⟨_, Tryd.func12, by kernel_rfl⟩ rfl (bound_any W (rf_old hv H) hl hfit (hgl.ext H.below))) rfl rfl rfl H ?_
  try clear H a W
  rintro _ a W rfl H
  replace H : St 43 w a W [(32, .agg (ks (sigH (n % 115792089237316195423570985008687907853269984665640564039457584007913129639936) p l))), (31, v), (30, .agg (ks p)), (29, .agg (ks (n % 115792089237316195423570985008687907853269984665640564039457584007913129639936))), (28, .bool false), (9, .pointer (some ⟨g5, 0, none⟩)), (8, .pointer (some ⟨g4, 0, none⟩)), (7, .pointer (some ⟨g3, 0, none⟩)), (6, .int .i64 0), (3, .pointer (some ⟨g1, 0, none⟩)), (2, v)] [(g5, 41, sv zo), (g4, 23, ks (n / 115792089237316195423570985008687907853269984665640564039457584007913129639936)), (g3, 23, ks (n % 115792089237316195423570985008687907853269984665640564039457584007913129639936)), (g1, 23, ks p)] := H
  refine pl_new (news_of rfl al_key0) rfl rfl rfl rfl H ?_
  try clear H a W
  intro g6 a W H
  refine pl_store rfl rfl rfl (k := 0) rfl (info_ks _) (by simp only [sv_size, ev_size, ks_size, Scl.ls_size] <;> rfl) (ks_one _) rfl rfl H ?_
  try clear H a W
  intro a W H
  refine pl_end ?_
  replace H : St 43 w a W [(11, .pointer (some ⟨g6, 0, none⟩)), (9, .pointer (some ⟨g5, 0, none⟩)), (8, .pointer (some ⟨g4, 0, none⟩)), (7, .pointer (some ⟨g3, 0, none⟩)), (6, .int .i64 0)] [(g6, 23, ks (sigH (n % 115792089237316195423570985008687907853269984665640564039457584007913129639936) p l)), (g5, 41, sv zo), (g4, 23, ks (n / 115792089237316195423570985008687907853269984665640564039457584007913129639936)), (g3, 23, ks (n % 115792089237316195423570985008687907853269984665640564039457584007913129639936))] := H.pick [0, 6, 7, 8, 9] [0, 1, 2, 3] rfl
  refine hK6 _ _ ?_
  clear hK6
  refine wp_seq_k (fun K7 hK7 => ?_)
  refine wp_seq_k (fun K8 hK8 => ?_)
  refine drawnS [.val 33 (.agg (ks (n / 115792089237316195423570985008687907853269984665640564039457584007913129639936))) [] [2], .val 34 (.agg (sv z1)) [0] [], .val 35 (.agg (sv zo)) [] [1], .val 36 (.agg (sv z2)) [2] [], .val 37 (.agg (ks (sigH (n % 115792089237316195423570985008687907853269984665640564039457584007913129639936) p l))) [] [0], .val 38 (.agg (sv z3)) [3, 4] [], .val 39 (.agg (sv z4)) [1, 5] [], .val 40 (.agg (ks mm)) [6] [], .val 41 (.agg (ks (n % 115792089237316195423570985008687907853269984665640564039457584007913129639936))) [] [3], .val 42 (.bool false) [7, 8] []] [0, 1, 0, 6, 0, 24, 34, 64, 0, 384] (by kernel_rfl) (by kernel_rfl) (by kernel_rfl) H ⟨⟨does_load rfl rfl (k := 0) rfl Tryd.underlying23 rfl (info_ks _), wanted_none rfl⟩, ⟨does_call rfl ⟨_, Tryd.func9, by kernel_rfl⟩ rfl (fun W hb => baseF hz1 (hgl.ext hb)), wanted_none rfl⟩, ⟨does_load rfl rfl (k := 0) rfl Tryd.underlying41 rfl (info_pt _), wanted_none rfl⟩, ⟨does_call rfl ⟨_, Tryd.func19, by kernel_rfl⟩ rfl (fun W hb => neg_pt hz2 W (hgl.ext hb).pg), wanted_none rfl⟩, ⟨does_load rfl rfl (k := 0) rfl Tryd.underlying23 rfl (info_ks _), wanted_none rfl⟩, ⟨does_call rfl ⟨_, Tryd.func20, by kernel_rfl⟩ rfl (fun W hb => mul_pt hz3 W (hgl.ext hb).pg), wanted_none rfl⟩, ⟨does_call rfl ⟨_, Tryd.func18, by kernel_rfl⟩ rfl (fun W hb => add_pt hz4 W (hgl.ext hb).pg), wanted_none rfl⟩, ⟨does_call rfl ⟨_, Tryd.func10, by kernel_rfl⟩ rfl (fun W hb => bytes_pt (P := chkP p hisp (n / 115792089237316195423570985008687907853269984665640564039457584007913129639936) (sigH (n % 115792089237316195423570985008687907853269984665640564039457584007913129639936) p l)) hrep hmm W (hgl.ext hb).pg), wanted_none rfl⟩, ⟨does_load rfl rfl (k := 0) rfl Tryd.underlying23 rfl (info_ks _), wanted_none rfl⟩, ⟨does_binOp rfl rfl rfl (sne_key (b := true) (by rw [hmm]; exact pbn_lt _) (lo_lt n) heq _ _), wanted_none rfl⟩, trivial⟩ ?_
  try clear H a W
  intro G7 a W H
  replace H : St 43 w a W [(33, .agg (ks (n / 115792089237316195423570985008687907853269984665640564039457584007913129639936))), (34, .agg (sv z1)), (35, .agg (sv zo)), (36, .agg (sv z2)), (37, .agg (ks (sigH (n % 115792089237316195423570985008687907853269984665640564039457584007913129639936) p l))), (38, .agg (sv z3)), (39, .agg (sv z4)), (40, .agg (ks mm)), (41, .agg (ks (n % 115792089237316195423570985008687907853269984665640564039457584007913129639936))), (42, .bool false), (11, .pointer (some ⟨g6, 0, none⟩)), (9, .pointer (some ⟨g5, 0, none⟩)), (8, .pointer (some ⟨g4, 0, none⟩)), (7, .pointer (some ⟨g3, 0, none⟩)), (6, .int .i64 0)] [(g6, 23, ks (sigH (n % 115792089237316195423570985008687907853269984665640564039457584007913129639936) p l)), (g5, 41, sv zo), (g4, 23, ks (n / 115792089237316195423570985008687907853269984665640564039457584007913129639936)), (g3, 23, ks (n % 115792089237316195423570985008687907853269984665640564039457584007913129639936))] := H
  replace H : St 43 w a W [(42, .bool false), (6, .int .i64 0)] [] := H.pick [9, 14] [] rfl
  refine hK8 _ _ ?_
  clear hK8
  refine wp_cond_false (H.ev rfl) ?_
  refine wp_skip ?_
  refine hK7 _ _ ?_
  clear hK7
  refine wp_seq_k (fun K9 hK9 => ?_)
  refine rg_plain ?_
  replace H : St 43 w a W [(42, .bool false)] [] := H.pick [0] [] rfl
  refine pl_V (F := fun u_ _ => u_ = .int .i64 0) (ob_val H (wanted_none rfl) (does_assign rfl rfl)) rfl rfl rfl H ?_
  try clear H a W
  rintro _ a W rfl H
  replace H : St 43 w a W [(6, .int .i64 0), (42, .bool false)] [] := H
  refine pl_end ?_
  replace H : St 43 w a W [(6, .int .i64 0)] [] := H.pick [0] [] rfl
  refine hK9 _ _ ?_
  clear hK9
  refine wp_ret ?_
  repeat (first | (with_reducible refine then_ret ?_) | (with_reducible refine blk_ret ?_))
  refine end_tmp (p := 6) rfl rfl H (fun hb => ?_)
  exact ⟨rfl, hb⟩
theorem check_any {v : Value} {p n : Nat} {M : List (List UInt8)} {l : List UInt8} (w : World) (hv : RF M v w) (hl : M.flatten = l) (hfit : Fit M) (hp : p < 115792089237316195423570985008687907853269984665640564039457584007913129639936) (hn : n < 13407807929942597099574024998205846127479365820592393377723561443721764030073546976801874298166903427690031858186486050853753882811946569946433649006084096) {b : Bool} (hb : checkN p n l = b) (hgl : GL w) : Calls Tryd.prog 6 #[.agg (ks p), .agg (Scl.ls n), v] w (fun rr w' => rr = .returned (.int .i64 (er b)) ∧ Below w.heap.size w w') := by
  cases hisp : isPt p with
  | false =>
    have e : b = false := by rw [← hb]; unfold checkN; rw [dif_neg (by rw [hisp]; decide)]
    rw [e, er_f]
    exact check_a w hv hl hfit hp hn hisp hgl
  | true =>
    cases hmay : decide (n / 115792089237316195423570985008687907853269984665640564039457584007913129639936 < LL') with
    | false =>
      have e : b = false := by rw [← hb]; unfold checkN; rw [dif_pos hisp, hmay]; rfl
      rw [e, er_f]
      exact check_b w hv hl hfit hp hn hisp hmay hgl
    | true =>
      have e : b = decide (pbn (chkP p hisp (n / 115792089237316195423570985008687907853269984665640564039457584007913129639936) (sigH (n % 115792089237316195423570985008687907853269984665640564039457584007913129639936) p l)) = n % 115792089237316195423570985008687907853269984665640564039457584007913129639936) := by rw [← hb]; unfold checkN; rw [dif_pos hisp, hmay, Bool.true_and]
      cases heq : decide (pbn (chkP p hisp (n / 115792089237316195423570985008687907853269984665640564039457584007913129639936) (sigH (n % 115792089237316195423570985008687907853269984665640564039457584007913129639936) p l)) = n % 115792089237316195423570985008687907853269984665640564039457584007913129639936) with
      | false => rw [e, heq, er_f]; exact check_c w hv hl hfit hp hn hisp hmay heq hgl
      | true => rw [e, heq, er_t]; exact check_d w hv hl hfit hp hn hisp hmay heq hgl
end Go.Proofs.YtpagiffbjofihaaDoor
namespace Go.Proofs.YtpagiffbjofihaaDoor
set_option linter.unusedVariables false
set_option linter.unusedSimpArgs false
set_option maxRecDepth 100000
open Go Go.RowKit
theorem ls_put {n k x : Nat} (hk : k < 64) (hx : x < 256) : (Scl.ls n).setIfInBounds k (.int .u8 (x : Int)) = Scl.ls (putd 256 n k x) := by
  rw [Scl.ls, ncs_set, Scl.ls]
  congr 1
  apply List.ext_getElem?
  intro j
  rw [List.getElem?_set]
  by_cases hj : j < 64
  · rw [Scl.lb_get (putd 256 n k x) hj, digit_put (by omega) hx (putd_eq 256 n k x) j]
    by_cases e : k = j
    · subst e
      rw [if_pos rfl, if_pos rfl, Scl.lb_len, if_pos hk]
    · rw [if_neg e, if_neg (fun h => e h.symm), Scl.lb_get n hj]
  · have : k ≠ j := by omega
    rw [if_neg this, List.getElem?_eq_none (by rw [Scl.lb_len]; omega), List.getElem?_eq_none (by rw [Scl.lb_len]; omega)]
theorem ia_long32 (g : Nat) (W : World) : (Instr.indexAt 27 (.pointer (some ⟨g, 0, none⟩)) (.int .i64 32)).run Tryd.prog W = .ok (.pointer (some ⟨g, 32, none⟩)) W := by kernel_rfl
theorem ld_long32 {n x : Nat} (hx : n / 256 ^ 32 % 256 = x) {g : Nat} (W : World) (h : Blk W g 27 (Scl.ls n)) : (Instr.loadAt 5 (.pointer (some ⟨g, 32, none⟩))).run Tryd.prog W = .ok (.int .u8 (x : Int)) W := by
  have hc := h.cell 32
  rw [Scl.ls_get n (by omega), hx] at hc
  go_simp
theorem st_long32 {n : Nat} {v : Int} {g : Nat} (W : World) (h : Blk W g 27 (Scl.ls n)) : (Instr.storeAt 5 (.pointer (some ⟨g, 32, none⟩)) (.int .u8 v)).run Tryd.prog W = .ok () (W.setCells g 32 [.int .u8 v]) := by
  have hc := h.cell 32
  have hf := h.frozen 32
  rw [Scl.ls_get n (by omega)] at hc
  have hs : (W.cell? ⟨g, 32, none⟩).isSome = true := by rw [hc]; rfl
  show _ = Result.ok () (W.setCell ⟨g, 32, none⟩ (.int .u8 v))
  go_simp
theorem sv_long32 {n m : Nat} {x : Nat} (hx : x < 256) (hm : putd 256 n 32 x = m) : setV (Scl.ls n) 32 [.int .u8 (x : Int)] = Scl.ls m := by
  show (Scl.ls n).setIfInBounds 32 (.int .u8 (x : Int)) = Scl.ls m
  rw [ls_put (by omega) hx, hm]
theorem wrap_inc {x : Nat} (hx : x < 256) : IntKind.u8.wrap ((x : Int) + 1) = (((x + 1) % 256 : Nat) : Int) := by
  have h : ∀ x : Fin 256, IntKind.u8.wrap (((x.val : Nat) : Int) + 1) = (((x.val + 1) % 256 : Nat) : Int) := by decide +kernel
  exact h ⟨x, hx⟩
theorem b_inc {x y : Nat} (hx : x < 256) (h : (x + 1) % 256 = y) (p q : Operand) (W : World) : (do eqGuard .add 5 p q (.int .u8 (x : Int)) (.int .u8 1); binOp .add 5 (.int .u8 (x : Int)) (.int .u8 1) : Sem Value).run Tryd.prog W = .ok (.int .u8 (y : Int)) W := by
  have e := wrap_inc hx
  rw [h] at e
  go_simp
/-- The first byte of the second half is another one. -/
theorem put_lo {n v : Nat} : putd 256 n 32 v % 115792089237316195423570985008687907853269984665640564039457584007913129639936 = n % 115792089237316195423570985008687907853269984665640564039457584007913129639936 := by
  have e := putd_eq 256 n 32 v
  rw [← lim_pow] at e
  generalize putd 256 n 32 v = m at *
  omega
theorem put_hi {n v d : Nat} (hd : n / 256 ^ 32 % 256 = d) (hv : (d + 1) % 256 = v) : putd 256 n 32 v / 115792089237316195423570985008687907853269984665640564039457584007913129639936 ≠ n / 115792089237316195423570985008687907853269984665640564039457584007913129639936 := by
  have e := putd_eq 256 n 32 v
  rw [← lim_pow] at e hd
  generalize putd 256 n 32 v = m at *
  omega
theorem check_put {x d v : Nat} {l : List UInt8} (hd : signN x l / 256 ^ 32 % 256 = d) (hv : (d + 1) % 256 = v) : checkN (pubN x) (putd 256 (signN x l) 32 v) l = false := by
  have h1 : signN x l % 115792089237316195423570985008687907853269984665640564039457584007913129639936 = sigP x l := join_lo (sigP_lt x l)
  have h2 : signN x l / 115792089237316195423570985008687907853269984665640564039457584007913129639936 = sigS x l := join_hi (sigP_lt x l)
  rw [check_own (by rw [put_lo]; exact h1), decide_eq_false_iff_not, ← h2]
  exact put_hi hd hv
theorem put_lt {n v : Nat} (hn : n < 13407807929942597099574024998205846127479365820592393377723561443721764030073546976801874298166903427690031858186486050853753882811946569946433649006084096) (hv : v < 256) : putd 256 n 32 v < 13407807929942597099574024998205846127479365820592393377723561443721764030073546976801874298166903427690031858186486050853753882811946569946433649006084096 := by
  have e := putd_eq 256 n 32 v
  have h1 : (256 : Nat) ^ 32 * (n / 256 ^ 32 % 256) ≤ n := digit_le n 32
  rw [← lim_pow] at e h1
  have h3 : n / 115792089237316195423570985008687907853269984665640564039457584007913129639936 < 115792089237316195423570985008687907853269984665640564039457584007913129639936 := hi_lt hn
  generalize hq : n / 115792089237316195423570985008687907853269984665640564039457584007913129639936 = q at *
  have h4 : q - q % 256 + v < 115792089237316195423570985008687907853269984665640564039457584007913129639936 := by omega
  generalize putd 256 n 32 v = m at *
  omega
/-- Behind the same first half. -/
def oth (y s : Nat) : Nat := y % 115792089237316195423570985008687907853269984665640564039457584007913129639936 + 115792089237316195423570985008687907853269984665640564039457584007913129639936 * s
theorem oth_lt {y s : Nat} (hs : s < 115792089237316195423570985008687907853269984665640564039457584007913129639936) : oth y s < 13407807929942597099574024998205846127479365820592393377723561443721764030073546976801874298166903427690031858186486050853753882811946569946433649006084096 := join_lt (lo_lt y) hs
theorem oth_same {a b c : Nat} (ha : a < 115792089237316195423570985008687907853269984665640564039457584007913129639936) : (a + 115792089237316195423570985008687907853269984665640564039457584007913129639936 * b = a + 115792089237316195423570985008687907853269984665640564039457584007913129639936 * c) ↔ b = c := by omega
theorem check_oth {x s : Nat} {l : List UInt8} : checkN (pubN x) (oth (signN x l) s) l = decide (oth (signN x l) s = signN x l) := by
  have h1 : signN x l % 115792089237316195423570985008687907853269984665640564039457584007913129639936 = sigP x l := join_lo (sigP_lt x l)
  have h2 : signN x l / 115792089237316195423570985008687907853269984665640564039457584007913129639936 = sigS x l := join_hi (sigP_lt x l)
  have e := split_two (signN x l)
  have hc : checkN (pubN x) (oth (signN x l) s) l = decide (s = sigS x l) := by
    have h3 : oth (signN x l) s % 115792089237316195423570985008687907853269984665640564039457584007913129639936 = sigP x l := by unfold oth; rw [h1]; exact join_lo (sigP_lt x l)
    rw [check_own h3]
    have h4 : oth (signN x l) s / 115792089237316195423570985008687907853269984665640564039457584007913129639936 = s := by unfold oth; rw [h1]; exact join_hi (sigP_lt x l)
    rw [h4]
  rw [hc, decide_eq_decide]
  rw [h1, h2] at e
  have e2 : oth (signN x l) s = sigP x l + 115792089237316195423570985008687907853269984665640564039457584007913129639936 * s := by unfold oth; rw [h1]
  have hp := sigP_lt x l
  generalize sigP x l = a at *
  generalize sigS x l = c at *
  generalize oth (signN x l) s = o at *
  generalize signN x l = y at *
  subst e2 e
  exact (oth_same hp).symm
theorem splice_oth {y m s : Nat} (hm : m = oth y s) : splice (Scl.ls y) 32 (((ks s).toList.drop 0).take 32) = Scl.ls m := by rw [hm]; exact splice_second y s
attribute [local irreducible] pubN signN sigP sigS checkN kby
theorem sign_z {v : Value} {x m : Nat} {M : List (List UInt8)} {l : List UInt8} (hm : m = signN x l) (w : World) (hv : RF M v w) (hl : M.flatten = l) (hfit : Fit M) (hgl : GL w) : Calls Tryd.prog 5 #[.agg (ks x), v] w (fun rr w' => rr = .returned (.agg (Scl.ls m)) ∧ Below w.heap.size w w') := by
  subst hm; exact sign_any w hv hl hfit hgl
theorem public_z {x m : Nat} (hm : m = pubN x) (w : World) (hgl : GL w) : Calls Tryd.prog 7 #[.agg (ks x)] w (fun rr w' => rr = .returned (.agg (ks m)) ∧ Below w.heap.size w w') := by
  subst hm; exact public_sign x w hgl
theorem fit_m : Fit [[109]] := ⟨by decide, by decide⟩
theorem fit_one {l : List UInt8} (h : l.length ≤ 1000) : Fit [l] := ⟨by simp; omega, by simp⟩
theorem one_flat (l : List UInt8) : [l].flatten = l := by simp
end Go.Proofs.YtpagiffbjofihaaDoor
namespace Go.Proofs.YtpagiffbjofihaaDoor
set_option linter.unusedVariables false
set_option linter.unusedSimpArgs false
set_option maxRecDepth 100000
open Go Go.RowKit
attribute [local irreducible] ev sv ks Scl.ls ptSet ptAdd ptMul ptNeg ptE rootC EE II TD BX BY BE kby num seedA seedP pubN sigR sigP sigH sigS signN checkN clampK pbn BP er putd oth
set_option maxHeartbeats 4000000 in
theorem known7  (w : World) (hgl : GL w) : Calls Tryd.prog 4 #[] w (fun rr w' => rr = .returned (.bool true) ∧ Below w.heap.size w w') := by
  obtain ⟨y, hy⟩ : ∃ z, z = signN 5 [109] := ⟨_, rfl⟩
  obtain ⟨p, hp⟩ : ∃ z, z = pubN 5 := ⟨_, rfl⟩
  obtain ⟨d, hd⟩ : ∃ z, y / 256 ^ 32 % 256 = z := ⟨_, rfl⟩
  obtain ⟨v, hv⟩ : ∃ z, (d + 1) % 256 = z := ⟨_, rfl⟩
  obtain ⟨t, ht⟩ : ∃ z, putd 256 y 32 v = z := ⟨_, rfl⟩
  have hd2 : d < 256 := by rw [← hd]; exact Nat.mod_lt _ (by omega)
  have hv2 : v < 256 := by rw [← hv]; exact Nat.mod_lt _ (by omega)
  have hpl : p < 115792089237316195423570985008687907853269984665640564039457584007913129639936 := by rw [hp]; exact pubN_lt _
  have hyl : y < 13407807929942597099574024998205846127479365820592393377723561443721764030073546976801874298166903427690031858186486050853753882811946569946433649006084096 := by rw [hy]; exact signN_lt _ _
  have htl : t < 13407807929942597099574024998205846127479365820592393377723561443721764030073546976801874298166903427690031858186486050853753882811946569946433649006084096 := by rw [← ht]; exact put_lt hyl hv2
  have hcy : checkN p y [109] = true := by rw [hp, hy]; exact check_sign _ _
  have hct : checkN p t [109] = false := by rw [hp, ← ht, hy]; rw [hy] at hd; exact check_put hd hv
  refine calls_st (vs := []) 33 Tryd.func4 rfl Tryd.ntmps4 rfl (fun a W H => ?_)
  replace H : St 33 w a W [] [] := H
  refine wp_seq_k (fun K1 hK1 => ?_)
  refine rg_plain ?_
  refine pl_V (F := fun u_ _ => u_ = .bool false) (ob_val H (wanted_none rfl) (does_assign rfl rfl)) rfl rfl rfl H ?_
  try clear H a W
  rintro _ a W rfl H
  replace H : St 33 w a W [(0, .bool false)] [] := H
  refine pl_end ?_
  refine hK1 _ _ ?_
  clear hK1
  refine wp_seq_k (fun K2 hK2 => ?_)
  refine rg_plain ?_
  refine pl_V (F := fun u_ _ => u_ = .agg (ks 5)) (ob_val H (wanted_none rfl) (does_build rfl rfl bd_key5)) rfl rfl rfl H ?_
  try clear H a W
  rintro _ a W rfl H
  replace H : St 33 w a W [(4, .agg (ks 5)), (0, .bool false)] [] := H
  refine pl_new (news_of rfl al_key0) rfl rfl rfl rfl H ?_
  try clear H a W
  intro g1 a W H
  refine pl_store rfl rfl rfl (k := 0) rfl (info_ks _) (by simp only [sv_size, ev_size, ks_size, Scl.ls_size] <;> rfl) (ks_one _) rfl rfl H ?_
  try clear H a W
  intro a W H
  refine pl_end ?_
  replace H : St 33 w a W [(1, .pointer (some ⟨g1, 0, none⟩)), (0, .bool false)] [(g1, 23, ks 5)] := H.pick [0, 2] [0] rfl
  refine hK2 _ _ ?_
  clear hK2
  refine wp_seq_k (fun K3 hK3 => ?_)
  refine rg_plain ?_
  refine pl_V (F := fun u_ _ => u_ = .agg (ks 5)) (ob_val H (wanted_none rfl) (does_load rfl rfl (k := 0) rfl Tryd.underlying23 rfl (info_ks _))) rfl rfl rfl H ?_
  try clear H a W
  rintro _ a W rfl H
  replace H : St 33 w a W [(5, .agg (ks 5)), (1, .pointer (some ⟨g1, 0, none⟩)), (0, .bool false)] [(g1, 23, ks 5)] := H
  refine pl_V (F := MF w.heap.size [(g1, 23, ks 5)] [109]) (ob_byte1 H (wanted_none rfl) rfl) rfl rfl rfl H ?_
  try clear H a W
  intro v6 a W hv6 H
  replace H : St 33 w a W [(6, v6), (5, .agg (ks 5)), (1, .pointer (some ⟨g1, 0, none⟩)), (0, .bool false)] [(g1, 23, ks 5)] := H
  refine pl_F (F := BF [109]) (ob_mark H (wanted_none rfl) rfl rfl hv6) rfl rfl rfl H ?_
  intro v7 a W hv7 hb H
  replace hv6 := MF.grow _ _ _ hv6 hb
  replace H : St 33 w a W [(7, v7), (6, v6), (5, .agg (ks 5)), (1, .pointer (some ⟨g1, 0, none⟩)), (0, .bool false)] [(g1, 23, ks 5)] := H
  refine pl_F (F := LF [[109]]) (ob_rows1 H (wanted_none rfl) rfl rfl hv7) rfl rfl rfl H ?_
  intro v8 a W hv8 hb H
  replace hv7 := BF.grow _ _ _ hv7 hb
  replace hv6 := MF.grow _ _ _ hv6 hb
  replace H : St 33 w a W [(8, v8), (7, v7), (6, v6), (5, .agg (ks 5)), (1, .pointer (some ⟨g1, 0, none⟩)), (0, .bool false)] [(g1, 23, ks 5)] := H
  refine pl_F (F := fun u_ _ => u_ = .agg (Scl.ls y)) (ob_cal H (wanted_none rfl) rfl ⟨_, Tryd.func5, by kernel_rfl⟩ rfl (sign_z hy W hv8.rf rfl fit_m (hgl.ext H.below))) rfl rfl rfl H ?_
  rintro _ a W rfl hb H
  replace hv8 := LF.grow _ _ _ hv8 hb
  replace hv7 := BF.grow _ _ _ hv7 hb
  replace hv6 := MF.grow _ _ _ hv6 hb
  replace H : St 33 w a W [(9, .agg (Scl.ls y)), (8, v8), (7, v7), (6, v6), (5, .agg (ks 5)), (1, .pointer (some ⟨g1, 0, none⟩)), (0, .bool false)] [(g1, 23, ks 5)] := H
  replace H : St 33 w a W [(9, .agg (Scl.ls y)), (5, .agg (ks 5)), (1, .pointer (some ⟨g1, 0, none⟩)), (0, .bool false)] [(g1, 23, ks 5)] := H.pick [0, 4, 5, 6] [0] rfl
  refine pl_new (news_of rfl al_long) rfl rfl rfl rfl H ?_
  try clear H a W
  intro g2 a W H
  refine pl_store rfl rfl rfl (k := 0) rfl (info_ls _) (by simp only [sv_size, ev_size, ks_size, Scl.ls_size] <;> rfl) (ls_one _) rfl rfl H ?_
  try clear H a W
  intro a W H
  refine pl_end ?_
  replace H : St 33 w a W [(2, .pointer (some ⟨g2, 0, none⟩)), (1, .pointer (some ⟨g1, 0, none⟩)), (0, .bool false)] [(g2, 27, Scl.ls y), (g1, 23, ks 5)] := H.pick [0, 3, 4] [0, 1] rfl
  refine hK3 _ _ ?_
  clear hK3
  refine wp_seq_k (fun K4 hK4 => ?_)
  refine rg_plain ?_
  refine pl_V (F := fun u_ _ => u_ = .agg (Scl.ls y)) (ob_val H (wanted_none rfl) (does_load rfl rfl (k := 0) rfl Tryd.underlying27 rfl (info_ls _))) rfl rfl rfl H ?_
  try clear H a W
  rintro _ a W rfl H
  replace H : St 33 w a W [(10, .agg (Scl.ls y)), (2, .pointer (some ⟨g2, 0, none⟩)), (1, .pointer (some ⟨g1, 0, none⟩)), (0, .bool false)] [(g2, 27, Scl.ls y), (g1, 23, ks 5)] := H
  refine pl_new (news_of rfl al_long) rfl rfl rfl rfl H ?_
  try clear H a W
  intro g3 a W H
  refine pl_store rfl rfl rfl (k := 0) rfl (info_ls _) (by simp only [sv_size, ev_size, ks_size, Scl.ls_size] <;> rfl) (ls_one _) rfl rfl H ?_
  try clear H a W
  intro a W H
  refine pl_end ?_
  replace H : St 33 w a W [(3, .pointer (some ⟨g3, 0, none⟩)), (2, .pointer (some ⟨g2, 0, none⟩)), (1, .pointer (some ⟨g1, 0, none⟩)), (0, .bool false)] [(g3, 27, Scl.ls y), (g2, 27, Scl.ls y), (g1, 23, ks 5)] := H.pick [0, 2, 3, 4] [0, 1, 2] rfl
  refine hK4 _ _ ?_
  clear hK4
  refine wp_seq_k (fun K5 hK5 => ?_)
  refine rg_plain ?_
  refine pl_V (F := fun u_ _ => u_ = .pointer (some ⟨g3, 32, none⟩)) (ob_val H (wanted_none rfl) (does_indexAddr rfl rfl rfl (ia_long32 _))) rfl rfl rfl H ?_
  try clear H a W
  rintro _ a W rfl H
  replace H : St 33 w a W [(11, .pointer (some ⟨g3, 32, none⟩)), (3, .pointer (some ⟨g3, 0, none⟩)), (2, .pointer (some ⟨g2, 0, none⟩)), (1, .pointer (some ⟨g1, 0, none⟩)), (0, .bool false)] [(g3, 27, Scl.ls y), (g2, 27, Scl.ls y), (g1, 23, ks 5)] := H
  refine pl_V (F := fun u_ _ => u_ = .int .u8 ((d : Nat) : Int)) (ob_val H (wanted_none rfl) (does_loadAt (v := .int .u8 ((d : Nat) : Int)) rfl rfl (k := 0) rfl (ld_long32 hd))) rfl rfl rfl H ?_
  try clear H a W
  rintro _ a W rfl H
  replace H : St 33 w a W [(12, .int .u8 ((d : Nat) : Int)), (11, .pointer (some ⟨g3, 32, none⟩)), (3, .pointer (some ⟨g3, 0, none⟩)), (2, .pointer (some ⟨g2, 0, none⟩)), (1, .pointer (some ⟨g1, 0, none⟩)), (0, .bool false)] [(g3, 27, Scl.ls y), (g2, 27, Scl.ls y), (g1, 23, ks 5)] := H
  refine pl_V (F := fun u_ _ => u_ = .int .u8 ((v : Nat) : Int)) (ob_val H (wanted_none rfl) (does_binOp rfl rfl rfl (b_inc hd2 hv _ _))) rfl rfl rfl H ?_
  try clear H a W
  rintro _ a W rfl H
  replace H : St 33 w a W [(13, .int .u8 ((v : Nat) : Int)), (12, .int .u8 ((d : Nat) : Int)), (11, .pointer (some ⟨g3, 32, none⟩)), (3, .pointer (some ⟨g3, 0, none⟩)), (2, .pointer (some ⟨g2, 0, none⟩)), (1, .pointer (some ⟨g1, 0, none⟩)), (0, .bool false)] [(g3, 27, Scl.ls y), (g2, 27, Scl.ls y), (g1, 23, ks 5)] := H
  refine pl_V (F := fun u_ _ => u_ = .pointer (some ⟨g3, 32, none⟩)) (ob_val H (wanted_none rfl) (does_indexAddr rfl rfl rfl (ia_long32 _))) rfl rfl rfl H ?_
  try clear H a W
  rintro _ a W rfl H
  replace H : St 33 w a W [(14, .pointer (some ⟨g3, 32, none⟩)), (13, .int .u8 ((v : Nat) : Int)), (12, .int .u8 ((d : Nat) : Int)), (11, .pointer (some ⟨g3, 32, none⟩)), (3, .pointer (some ⟨g3, 0, none⟩)), (2, .pointer (some ⟨g2, 0, none⟩)), (1, .pointer (some ⟨g1, 0, none⟩)), (0, .bool false)] [(g3, 27, Scl.ls y), (g2, 27, Scl.ls y), (g1, 23, ks 5)] := H
  refine pl_storeAt rfl rfl rfl (k := 0) rfl st_long32 (sv_long32 hv2 ht) rfl rfl H ?_
  try clear H a W
  intro a W H
  refine pl_end ?_
  replace H : St 33 w a W [(3, .pointer (some ⟨g3, 0, none⟩)), (2, .pointer (some ⟨g2, 0, none⟩)), (1, .pointer (some ⟨g1, 0, none⟩)), (0, .bool false)] [(g3, 27, Scl.ls t), (g2, 27, Scl.ls y), (g1, 23, ks 5)] := H.pick [4, 5, 6, 7] [0, 1, 2] rfl
  refine hK5 _ _ ?_
  clear hK5
  refine wp_seq_k (fun K6 hK6 => ?_)
  replace H : St 33 w a W [(3, .pointer (some ⟨g3, 0, none⟩)), (2, .pointer (some ⟨g2, 0, none⟩)), (1, .pointer (some ⟨g1, 0, none⟩))] [(g3, 27, Scl.ls t), (g2, 27, Scl.ls y), (g1, 23, ks 5)] := H.pick [0, 1, 2] [0, 1, 2] rfl
  refine drawnR (Grow w.heap.size [(g3, 27, Scl.ls t), (g2, 27, Scl.ls y), (g1, 23, ks 5)]) (Grow w.heap.size [(g3, 27, Scl.ls t), (g2, 27, Scl.ls y), (g1, 23, ks 5)]) [⟨15, fun u_ _ => u_ = .agg (ks 5), [], none, false⟩, ⟨16, fun u_ _ => u_ = .agg (ks p), [0], none, false⟩, ⟨17, fun u_ _ => u_ = .agg (Scl.ls y), [], none, false⟩, ⟨18, MF w.heap.size [(g3, 27, Scl.ls t), (g2, 27, Scl.ls y), (g1, 23, ks 5)] [109], [], none, false⟩, ⟨19, BF [109], [3], none, false⟩, ⟨20, LF [[109]], [4], none, false⟩, ⟨21, fun u_ _ => u_ = .int .i64 (er true), [1, 2, 5], none, false⟩, ⟨22, fun u_ _ => u_ = .bool true, [6], none, false⟩, ⟨23, fun u_ _ => u_ = .bool true, [7], none, false⟩, ⟨24, fun u_ _ => u_ = .agg (ks 5), [8], none, false⟩, ⟨25, fun u_ _ => u_ = .agg (ks p), [9, 8], none, false⟩, ⟨26, fun u_ _ => u_ = .agg (Scl.ls t), [8], none, false⟩, ⟨27, MF w.heap.size [(g3, 27, Scl.ls t), (g2, 27, Scl.ls y), (g1, 23, ks 5)] [109], [8], none, false⟩, ⟨28, BF [109], [12, 8], none, false⟩, ⟨29, LF [[109]], [13, 8], none, false⟩, ⟨30, fun u_ _ => u_ = .int .i64 (er false), [10, 11, 14, 8], none, false⟩, ⟨31, fun u_ _ => u_ = .bool true, [15, 8], none, false⟩, ⟨32, fun u_ _ => u_ = .bool true, [8, 16], none, false⟩] [0, 1, 0, 0, 8, 16, 38, 64, 192, 256, 768, 256, 256, 4352, 8448, 19712, 33024, 65792, 262143] [17] grow_st grow_st (by kernel_rfl) (by kernel_rfl) (by kernel_rfl) H ⟨⟨fun a W  H => by exact ob_val H (wanted_none rfl) (does_load rfl rfl (k := 2) rfl Tryd.underlying23 rfl (info_ks _)), val_grow, fun _ => val_grow⟩, ⟨fun a W y0 hy0 H => by subst hy0; exact ob_cal H (wanted_none rfl) rfl ⟨_, Tryd.func7, by kernel_rfl⟩ rfl (public_z hp W (hgl.ext H.below)), val_grow, fun _ => val_grow⟩, ⟨fun a W  H => by exact ob_val H (wanted_none rfl) (does_load rfl rfl (k := 1) rfl Tryd.underlying27 rfl (info_ls _)), val_grow, fun _ => val_grow⟩, ⟨fun a W  H => by exact ob_byte1 H (wanted_none rfl) rfl, MF.grow, fun _ => MF.grow⟩, ⟨fun a W v18 hv18 H => by exact ob_mark H (wanted_none rfl) rfl rfl hv18, BF.grow, fun _ => BF.grow⟩, ⟨fun a W v19 hv19 H => by exact ob_rows1 H (wanted_none rfl) rfl rfl hv19, LF.grow, fun _ => LF.grow⟩, ⟨fun a W y1 hy1 y2 hy2 v20 hv20 H => by subst hy1; subst hy2; exact ob_cal H (wanted_none rfl) rfl ⟨_, Tryd.func6, by kernel_rfl⟩ rfl (check_any W hv20.rf (l := [109]) rfl fit_m hpl hyl hcy (hgl.ext H.below)), val_grow, fun _ => val_grow⟩, ⟨fun a W y6 hy6 H => by subst hy6; exact ob_val H (wanted_none rfl) (does_binOp rfl rfl rfl (er_eq0 true _ _)), val_grow, fun _ => val_grow⟩, ⟨fun a W y7 hy7 H => by subst hy7; exact ob_val H (wanted_none rfl) (does_move rfl rfl), val_grow, fun _ => val_grow⟩, ⟨fun a W y8 hy8 H => by subst hy8; exact ob_val H (wanted_some rfl rfl rfl rfl rfl) (does_load rfl rfl (k := 2) rfl Tryd.underlying23 rfl (info_ks _)), val_grow, fun _ => val_grow⟩, ⟨fun a W y9 hy9 y8 hy8 H => by subst hy9; subst hy8; exact ob_cal H (wanted_some rfl rfl rfl rfl rfl) rfl ⟨_, Tryd.func7, by kernel_rfl⟩ rfl (public_z hp W (hgl.ext H.below)), val_grow, fun _ => val_grow⟩, ⟨fun a W y8 hy8 H => by subst hy8; exact ob_val H (wanted_some rfl rfl rfl rfl rfl) (does_load rfl rfl (k := 0) rfl Tryd.underlying27 rfl (info_ls _)), val_grow, fun _ => val_grow⟩, ⟨fun a W y8 hy8 H => by subst hy8; exact ob_byte1 H (wanted_some rfl rfl rfl rfl rfl) rfl, MF.grow, fun _ => MF.grow⟩, ⟨fun a W v27 hv27 y8 hy8 H => by subst hy8; exact ob_mark H (wanted_some rfl rfl rfl rfl rfl) rfl rfl hv27, BF.grow, fun _ => BF.grow⟩, ⟨fun a W v28 hv28 y8 hy8 H => by subst hy8; exact ob_rows1 H (wanted_some rfl rfl rfl rfl rfl) rfl rfl hv28, LF.grow, fun _ => LF.grow⟩, ⟨fun a W y10 hy10 y11 hy11 v29 hv29 y8 hy8 H => by subst hy10; subst hy11; subst hy8; exact ob_cal H (wanted_some rfl rfl rfl rfl rfl) rfl ⟨_, Tryd.func6, by kernel_rfl⟩ rfl (check_any W hv29.rf (l := [109]) rfl fit_m hpl htl hct (hgl.ext H.below)), val_grow, fun _ => val_grow⟩, ⟨fun a W y15 hy15 y8 hy8 H => by subst hy15; subst hy8; exact ob_val H (wanted_some rfl rfl rfl rfl rfl) (does_binOp rfl rfl rfl (er_ne0 false _ _)), val_grow, fun _ => val_grow⟩, ⟨fun a W y8 hy8 y16 hy16 H => by subst hy8; subst hy16; exact ob_val H (wanted_none rfl) (does_pick rfl rfl (fun _ => rfl) (fun hb => by cases hb)), val_grow, fun _ => val_grow⟩, trivial⟩ (by kernel_rfl) ?_
  try clear H a W
  intro a W
  rintro _ rfl
  intro H
  replace H : St 33 w a W [(32, .bool true), (3, .pointer (some ⟨g3, 0, none⟩)), (2, .pointer (some ⟨g2, 0, none⟩)), (1, .pointer (some ⟨g1, 0, none⟩))] [(g3, 27, Scl.ls t), (g2, 27, Scl.ls y), (g1, 23, ks 5)] := H
  refine pl_V (F := fun u_ _ => u_ = .bool true) (ob_val H (wanted_none rfl) (does_assign rfl rfl)) rfl rfl rfl H ?_
  try clear H a W
  rintro _ a W rfl H
  replace H : St 33 w a W [(0, .bool true), (32, .bool true), (3, .pointer (some ⟨g3, 0, none⟩)), (2, .pointer (some ⟨g2, 0, none⟩)), (1, .pointer (some ⟨g1, 0, none⟩))] [(g3, 27, Scl.ls t), (g2, 27, Scl.ls y), (g1, 23, ks 5)] := H
  refine pl_end ?_
  replace H : St 33 w a W [(0, .bool true)] [] := H.pick [0] [] rfl
  refine hK6 _ _ ?_
  clear hK6
  refine wp_ret ?_
  repeat (first | (with_reducible refine then_ret ?_) | (with_reducible refine blk_ret ?_))
  refine end_tmp (p := 0) rfl rfl H (fun hb => ?_)
  exact ⟨rfl, hb⟩
end Go.Proofs.YtpagiffbjofihaaDoor
namespace Go.Proofs.YtpagiffbjofihaaDoor
set_option linter.unusedVariables false
set_option linter.unusedSimpArgs false
set_option maxRecDepth 100000
open Go Go.RowKit
attribute [local irreducible] ev sv ks Scl.ls ptSet ptAdd ptMul ptNeg ptE rootC EE II TD BX BY BE kby num seedA seedP pubN sigR sigP sigH sigS signN checkN clampK pbn BP er putd oth
set_option maxHeartbeats 4000000 in
theorem other_a {A : Option Addr} {k c : Nat} {x s : Nat} {l : List UInt8} (w : World) (hm : BF l (.slice A k c) w) (hs : s < 115792089237316195423570985008687907853269984665640564039457584007913129639936) (hlen : 500 < k) (hgl : GL w) : Calls Tryd.prog 3 #[.agg (ks x), .slice A k c, .agg (ks s)] w (fun rr w' => rr = .returned (.bool true) ∧ Below w.heap.size w w') := by
  refine calls_st (vs := [.agg (ks x), .slice A k c, .agg (ks s)]) 37 Tryd.func3 rfl Tryd.ntmps3 rfl (fun a W H => ?_)
  replace H : St 37 w a W [(0, .agg (ks x)), (1, .slice A k c), (2, .agg (ks s))] [] := H
  refine wp_seq_k (fun K1 hK1 => ?_)
  refine rg_plain ?_
  refine pl_box rfl rfl (bx_key x) rfl rfl rfl rfl H ?_
  try clear H a W
  intro g1 a W H
  refine pl_box rfl rfl (bx_key s) rfl rfl rfl rfl H ?_
  try clear H a W
  intro g2 a W H
  refine pl_V (F := fun u_ _ => u_ = .bool false) (ob_val H (wanted_none rfl) (does_assign rfl rfl)) rfl rfl rfl H ?_
  try clear H a W
  rintro _ a W rfl H
  replace H : St 37 w a W [(6, .bool false), (5, .pointer (some ⟨g2, 0, none⟩)), (3, .pointer (some ⟨g1, 0, none⟩)), (0, .agg (ks x)), (1, .slice A k c), (2, .agg (ks s))] [(g2, 23, ks s), (g1, 23, ks x)] := H
  refine pl_end ?_
  replace H : St 37 w a W [(6, .bool false), (5, .pointer (some ⟨g2, 0, none⟩)), (3, .pointer (some ⟨g1, 0, none⟩)), (1, .slice A k c)] [(g2, 23, ks s), (g1, 23, ks x)] := H.pick [0, 1, 2, 4] [0, 1] rfl
  refine hK1 _ _ ?_
  clear hK1
  refine wp_seq_k (fun K2 hK2 => ?_)
  refine wp_seq_k (fun K3 hK3 => ?_)
  refine rg_plain ?_
  refine pl_V (F := fun u_ _ => u_ = .slice A k c) (ob_val H (wanted_none rfl) (does_move rfl rfl)) rfl rfl rfl H ?_
  try clear H a W
  rintro _ a W rfl H
  replace H : St 37 w a W [(10, .slice A k c), (6, .bool false), (5, .pointer (some ⟨g2, 0, none⟩)), (3, .pointer (some ⟨g1, 0, none⟩)), (1, .slice A k c)] [(g2, 23, ks s), (g1, 23, ks x)] := H
  refine pl_V (F := fun u_ _ => u_ = .int .i64 (k : Int)) (ob_val H (wanted_none rfl) (does_len Tryd.underlying24 rfl rfl)) rfl rfl rfl H ?_
  try clear H a W
  rintro _ a W rfl H
  replace H : St 37 w a W [(11, .int .i64 (k : Int)), (10, .slice A k c), (6, .bool false), (5, .pointer (some ⟨g2, 0, none⟩)), (3, .pointer (some ⟨g1, 0, none⟩)), (1, .slice A k c)] [(g2, 23, ks s), (g1, 23, ks x)] := H
  refine pl_V (F := fun u_ _ => u_ = .bool true) (ob_val H (wanted_none rfl) (does_binOp rfl rfl rfl (gt_yes hlen _ _))) rfl rfl rfl H ?_
  try clear H a W
  rintro _ a W rfl H
  replace H : St 37 w a W [(12, .bool true), (11, .int .i64 (k : Int)), (10, .slice A k c), (6, .bool false), (5, .pointer (some ⟨g2, 0, none⟩)), (3, .pointer (some ⟨g1, 0, none⟩)), (1, .slice A k c)] [(g2, 23, ks s), (g1, 23, ks x)] := H
  refine pl_end ?_
  replace H : St 37 w a W [(12, .bool true), (6, .bool false), (5, .pointer (some ⟨g2, 0, none⟩)), (3, .pointer (some ⟨g1, 0, none⟩)), (1, .slice A k c)] [(g2, 23, ks s), (g1, 23, ks x)] := H.pick [0, 3, 4, 5, 6] [0, 1] rfl
  refine hK3 _ _ ?_
  clear hK3
  refine wp_cond_true (H.ev rfl) ?_
  refine wp_seq_k (fun K4 hK4 => ?_)
  refine rg_plain ?_
  refine pl_V (F := fun u_ _ => u_ = .bool true) (ob_cal H (wanted_none rfl) rfl ⟨_, Tryd.func4, by kernel_rfl⟩ rfl (known7 W (hgl.ext H.below))) rfl rfl rfl H ?_
  try clear H a W
  rintro _ a W rfl H
  replace H : St 37 w a W [(13, .bool true), (12, .bool true), (6, .bool false), (5, .pointer (some ⟨g2, 0, none⟩)), (3, .pointer (some ⟨g1, 0, none⟩)), (1, .slice A k c)] [(g2, 23, ks s), (g1, 23, ks x)] := H
  replace H : St 37 w a W [(13, .bool true), (12, .bool true), (5, .pointer (some ⟨g2, 0, none⟩)), (3, .pointer (some ⟨g1, 0, none⟩)), (1, .slice A k c)] [(g2, 23, ks s), (g1, 23, ks x)] := H.pick [0, 1, 3, 4, 5] [0, 1] rfl
  refine pl_V (F := fun u_ _ => u_ = .bool true) (ob_val H (wanted_none rfl) (does_assign rfl rfl)) rfl rfl rfl H ?_
  try clear H a W
  rintro _ a W rfl H
  replace H : St 37 w a W [(6, .bool true), (13, .bool true), (12, .bool true), (5, .pointer (some ⟨g2, 0, none⟩)), (3, .pointer (some ⟨g1, 0, none⟩)), (1, .slice A k c)] [(g2, 23, ks s), (g1, 23, ks x)] := H
  refine pl_end ?_
  replace H : St 37 w a W [(6, .bool true), (5, .pointer (some ⟨g2, 0, none⟩)), (3, .pointer (some ⟨g1, 0, none⟩)), (1, .slice A k c)] [(g2, 23, ks s), (g1, 23, ks x)] := H.pick [0, 3, 4, 5] [0, 1] rfl
  refine hK4 _ _ ?_
  clear hK4
  refine wp_ret ?_
  repeat (first | (with_reducible refine then_ret ?_) | (with_reducible refine blk_ret ?_))
  refine end_tmp (p := 6) rfl rfl H (fun hb => ?_)
  exact ⟨rfl, hb⟩
set_option maxHeartbeats 4000000 in
theorem other_b {A : Option Addr} {k c : Nat} {x s : Nat} {l : List UInt8} (w : World) (hm : BF l (.slice A k c) w) (hs : s < 115792089237316195423570985008687907853269984665640564039457584007913129639936) (hlen : k ≤ 500) (hgl : GL w) : Calls Tryd.prog 3 #[.agg (ks x), .slice A k c, .agg (ks s)] w (fun rr w' => rr = .returned (.bool true) ∧ Below w.heap.size w w') := by
  have hl : l.length ≤ 1000 := by have h1 := hlen; obtain ⟨A', n', c', e', h2⟩ := hm; injection e' with e1 e2 e3; have h3 := h2.len; omega
  obtain ⟨y, hy⟩ : ∃ z, z = signN x l := ⟨_, rfl⟩
  obtain ⟨p, hp⟩ : ∃ z, z = pubN x := ⟨_, rfl⟩
  obtain ⟨t, ht⟩ : ∃ z, z = oth y s := ⟨_, rfl⟩
  obtain ⟨b, hb0⟩ : ∃ b, decide (t = y) = b := ⟨_, rfl⟩
  have hpl : p < 115792089237316195423570985008687907853269984665640564039457584007913129639936 := by rw [hp]; exact pubN_lt _
  have hyl : y < 13407807929942597099574024998205846127479365820592393377723561443721764030073546976801874298166903427690031858186486050853753882811946569946433649006084096 := by rw [hy]; exact signN_lt _ _
  have htl : t < 13407807929942597099574024998205846127479365820592393377723561443721764030073546976801874298166903427690031858186486050853753882811946569946433649006084096 := by rw [ht]; exact oth_lt hs
  have hc : checkN p t l = b := by rw [← hb0, ht, hp, hy]; exact check_oth
  refine calls_st (vs := [.agg (ks x), .slice A k c, .agg (ks s)]) 37 Tryd.func3 rfl Tryd.ntmps3 rfl (fun a W H => ?_)
  replace H : St 37 w a W [(0, .agg (ks x)), (1, .slice A k c), (2, .agg (ks s))] [] := H
  refine wp_seq_k (fun K1 hK1 => ?_)
  refine rg_plain ?_
  refine pl_box rfl rfl (bx_key x) rfl rfl rfl rfl H ?_
  try clear H a W
  intro g1 a W H
  refine pl_box rfl rfl (bx_key s) rfl rfl rfl rfl H ?_
  try clear H a W
  intro g2 a W H
  refine pl_V (F := fun u_ _ => u_ = .bool false) (ob_val H (wanted_none rfl) (does_assign rfl rfl)) rfl rfl rfl H ?_
  try clear H a W
  rintro _ a W rfl H
  replace H : St 37 w a W [(6, .bool false), (5, .pointer (some ⟨g2, 0, none⟩)), (3, .pointer (some ⟨g1, 0, none⟩)), (0, .agg (ks x)), (1, .slice A k c), (2, .agg (ks s))] [(g2, 23, ks s), (g1, 23, ks x)] := H
  refine pl_end ?_
  replace H : St 37 w a W [(6, .bool false), (5, .pointer (some ⟨g2, 0, none⟩)), (3, .pointer (some ⟨g1, 0, none⟩)), (1, .slice A k c)] [(g2, 23, ks s), (g1, 23, ks x)] := H.pick [0, 1, 2, 4] [0, 1] rfl
  refine hK1 _ _ ?_
  clear hK1
  refine wp_seq_k (fun K2 hK2 => ?_)
  refine wp_seq_k (fun K3 hK3 => ?_)
  refine rg_plain ?_
  refine pl_V (F := fun u_ _ => u_ = .slice A k c) (ob_val H (wanted_none rfl) (does_move rfl rfl)) rfl rfl rfl H ?_
  try clear H a W
  rintro _ a W rfl H
  replace H : St 37 w a W [(10, .slice A k c), (6, .bool false), (5, .pointer (some ⟨g2, 0, none⟩)), (3, .pointer (some ⟨g1, 0, none⟩)), (1, .slice A k c)] [(g2, 23, ks s), (g1, 23, ks x)] := H
  refine pl_V (F := fun u_ _ => u_ = .int .i64 (k : Int)) (ob_val H (wanted_none rfl) (does_len Tryd.underlying24 rfl rfl)) rfl rfl rfl H ?_
  try clear H a W
  rintro _ a W rfl H
  replace H : St 37 w a W [(11, .int .i64 (k : Int)), (10, .slice A k c), (6, .bool false), (5, .pointer (some ⟨g2, 0, none⟩)), (3, .pointer (some ⟨g1, 0, none⟩)), (1, .slice A k c)] [(g2, 23, ks s), (g1, 23, ks x)] := H
  refine pl_V (F := fun u_ _ => u_ = .bool false) (ob_val H (wanted_none rfl) (does_binOp rfl rfl rfl (gt_no hlen _ _))) rfl rfl rfl H ?_
  try clear H a W
  rintro _ a W rfl H
  replace H : St 37 w a W [(12, .bool false), (11, .int .i64 (k : Int)), (10, .slice A k c), (6, .bool false), (5, .pointer (some ⟨g2, 0, none⟩)), (3, .pointer (some ⟨g1, 0, none⟩)), (1, .slice A k c)] [(g2, 23, ks s), (g1, 23, ks x)] := H
  refine pl_end ?_
  replace H : St 37 w a W [(12, .bool false), (6, .bool false), (5, .pointer (some ⟨g2, 0, none⟩)), (3, .pointer (some ⟨g1, 0, none⟩)), (1, .slice A k c)] [(g2, 23, ks s), (g1, 23, ks x)] := H.pick [0, 3, 4, 5, 6] [0, 1] rfl
  refine hK3 _ _ ?_
  clear hK3
  refine wp_cond_false (H.ev rfl) ?_
  refine wp_skip ?_
  refine hK2 _ _ ?_
  clear hK2
  refine wp_seq_k (fun K4 hK4 => ?_)
  refine rg_plain ?_
  refine pl_V (F := fun u_ _ => u_ = .agg (ks x)) (ob_val H (wanted_none rfl) (does_load rfl rfl (k := 1) rfl Tryd.underlying23 rfl (info_ks _))) rfl rfl rfl H ?_
  try clear H a W
  rintro _ a W rfl H
  replace H : St 37 w a W [(14, .agg (ks x)), (12, .bool false), (6, .bool false), (5, .pointer (some ⟨g2, 0, none⟩)), (3, .pointer (some ⟨g1, 0, none⟩)), (1, .slice A k c)] [(g2, 23, ks s), (g1, 23, ks x)] := H
  refine pl_V (F := fun u_ _ => u_ = .slice A k c) (ob_val H (wanted_none rfl) (does_move rfl rfl)) rfl rfl rfl H ?_
  try clear H a W
  rintro _ a W rfl H
  replace H : St 37 w a W [(15, .slice A k c), (14, .agg (ks x)), (12, .bool false), (6, .bool false), (5, .pointer (some ⟨g2, 0, none⟩)), (3, .pointer (some ⟨g1, 0, none⟩)), (1, .slice A k c)] [(g2, 23, ks s), (g1, 23, ks x)] := H
  refine pl_V (F := LF [l]) (ob_rows1 H (wanted_none rfl) rfl rfl (bf_old hm H)) rfl rfl rfl H ?_
  try clear H a W
  intro v16 a W hv16 H
  replace H : St 37 w a W [(16, v16), (15, .slice A k c), (14, .agg (ks x)), (12, .bool false), (6, .bool false), (5, .pointer (some ⟨g2, 0, none⟩)), (3, .pointer (some ⟨g1, 0, none⟩)), (1, .slice A k c)] [(g2, 23, ks s), (g1, 23, ks x)] := H
  refine pl_F (F := fun u_ _ => u_ = .agg (Scl.ls y)) (ob_cal H (wanted_none rfl) rfl ⟨_, Tryd.func5, by kernel_rfl⟩ rfl (sign_z hy W hv16.rf (one_flat l) (fit_one hl) (hgl.ext H.below))) rfl rfl rfl H ?_
  rintro _ a W rfl hb H
  replace hv16 := LF.grow _ _ _ hv16 hb
  replace H : St 37 w a W [(17, .agg (Scl.ls y)), (16, v16), (15, .slice A k c), (14, .agg (ks x)), (12, .bool false), (6, .bool false), (5, .pointer (some ⟨g2, 0, none⟩)), (3, .pointer (some ⟨g1, 0, none⟩)), (1, .slice A k c)] [(g2, 23, ks s), (g1, 23, ks x)] := H
  replace H : St 37 w a W [(17, .agg (Scl.ls y)), (15, .slice A k c), (14, .agg (ks x)), (12, .bool false), (6, .bool false), (5, .pointer (some ⟨g2, 0, none⟩)), (3, .pointer (some ⟨g1, 0, none⟩)), (1, .slice A k c)] [(g2, 23, ks s), (g1, 23, ks x)] := H.pick [0, 2, 3, 4, 5, 6, 7, 8] [0, 1] rfl
  refine pl_new (news_of rfl al_long) rfl rfl rfl rfl H ?_
  try clear H a W
  intro g3 a W H
  refine pl_store rfl rfl rfl (k := 0) rfl (info_ls _) (by simp only [sv_size, ev_size, ks_size, Scl.ls_size] <;> rfl) (ls_one _) rfl rfl H ?_
  try clear H a W
  intro a W H
  refine pl_end ?_
  replace H : St 37 w a W [(7, .pointer (some ⟨g3, 0, none⟩)), (6, .bool false), (5, .pointer (some ⟨g2, 0, none⟩)), (3, .pointer (some ⟨g1, 0, none⟩)), (1, .slice A k c)] [(g3, 27, Scl.ls y), (g2, 23, ks s), (g1, 23, ks x)] := H.pick [0, 5, 6, 7, 8] [0, 1, 2] rfl
  refine hK4 _ _ ?_
  clear hK4
  refine wp_seq_k (fun K5 hK5 => ?_)
  refine rg_plain ?_
  refine pl_V (F := fun u_ _ => u_ = .agg (Scl.ls y)) (ob_val H (wanted_none rfl) (does_load rfl rfl (k := 0) rfl Tryd.underlying27 rfl (info_ls _))) rfl rfl rfl H ?_
  try clear H a W
  rintro _ a W rfl H
  replace H : St 37 w a W [(18, .agg (Scl.ls y)), (7, .pointer (some ⟨g3, 0, none⟩)), (6, .bool false), (5, .pointer (some ⟨g2, 0, none⟩)), (3, .pointer (some ⟨g1, 0, none⟩)), (1, .slice A k c)] [(g3, 27, Scl.ls y), (g2, 23, ks s), (g1, 23, ks x)] := H
  refine pl_new (news_of rfl al_long) rfl rfl rfl rfl H ?_
  try clear H a W
  intro g4 a W H
  refine pl_store rfl rfl rfl (k := 0) rfl (info_ls _) (by simp only [sv_size, ev_size, ks_size, Scl.ls_size] <;> rfl) (ls_one _) rfl rfl H ?_
  try clear H a W
  intro a W H
  refine pl_end ?_
  replace H : St 37 w a W [(8, .pointer (some ⟨g4, 0, none⟩)), (7, .pointer (some ⟨g3, 0, none⟩)), (6, .bool false), (5, .pointer (some ⟨g2, 0, none⟩)), (3, .pointer (some ⟨g1, 0, none⟩)), (1, .slice A k c)] [(g4, 27, Scl.ls y), (g3, 27, Scl.ls y), (g2, 23, ks s), (g1, 23, ks x)] := H.pick [0, 2, 3, 4, 5, 6] [0, 1, 2, 3] rfl
  refine hK5 _ _ ?_
  clear hK5
  refine wp_seq_k (fun K6 hK6 => ?_)
  refine drawnR (Grow w.heap.size [(g4, 27, Scl.ls y), (g3, 27, Scl.ls y), (g2, 23, ks s), (g1, 23, ks x)]) (Grow w.heap.size [(g4, 27, Scl.ls y), (g3, 27, Scl.ls y), (g2, 23, ks s), (g1, 23, ks x)]) [⟨19, fun u_ _ => u_ = .slice (some ⟨g4, 32, none⟩) 32 32, [], none, false⟩, ⟨20, fun u_ _ => u_ = .slice (some ⟨g2, 0, none⟩) 32 32, [], none, false⟩] [0, 0, 3] [0, 1] grow_st grow_st (by kernel_rfl) (by kernel_rfl) (by kernel_rfl) H ⟨⟨fun a W  H => by exact ob_val H (wanted_none rfl) (does_slice rfl rfl (vl := some (.int .i64 32)) (vh := none) rfl rfl (sl_hi g4)), val_grow, fun _ => val_grow⟩, ⟨fun a W  H => by exact ob_val H (wanted_none rfl) (does_slice rfl rfl (vl := none) (vh := none) rfl rfl (sl_key g2)), val_grow, fun _ => val_grow⟩, trivial⟩ (by kernel_rfl) ?_
  try clear H a W
  intro a W
  rintro _ rfl
  rintro _ rfl
  intro H
  replace H : St 37 w a W [(20, .slice (some ⟨g2, 0, none⟩) 32 32), (19, .slice (some ⟨g4, 32, none⟩) 32 32), (8, .pointer (some ⟨g4, 0, none⟩)), (7, .pointer (some ⟨g3, 0, none⟩)), (6, .bool false), (5, .pointer (some ⟨g2, 0, none⟩)), (3, .pointer (some ⟨g1, 0, none⟩)), (1, .slice A k c)] [(g4, 27, Scl.ls y), (g3, 27, Scl.ls y), (g2, 23, ks s), (g1, 23, ks x)] := H
  refine pl_copy rfl Tryd.underlying24 size_u8b rfl rfl (k := 0) rfl (k2 := 2) rfl (m := 32) rfl (by simp only [ks_size, Scl.ls_size] <;> omega) (by simp only [ks_size, Scl.ls_size] <;> omega) (ks_one _) (splice_oth ht) rfl rfl rfl rfl H ?_
  try clear H a W
  intro a W H
  replace H : St 37 w a W [(21, .int .i64 ((32 : Nat) : Int)), (20, .slice (some ⟨g2, 0, none⟩) 32 32), (19, .slice (some ⟨g4, 32, none⟩) 32 32), (8, .pointer (some ⟨g4, 0, none⟩)), (7, .pointer (some ⟨g3, 0, none⟩)), (6, .bool false), (5, .pointer (some ⟨g2, 0, none⟩)), (3, .pointer (some ⟨g1, 0, none⟩)), (1, .slice A k c)] [(g4, 27, Scl.ls t), (g3, 27, Scl.ls y), (g2, 23, ks s), (g1, 23, ks x)] := H
  refine pl_end ?_
  replace H : St 37 w a W [(8, .pointer (some ⟨g4, 0, none⟩)), (7, .pointer (some ⟨g3, 0, none⟩)), (6, .bool false), (3, .pointer (some ⟨g1, 0, none⟩)), (1, .slice A k c)] [(g4, 27, Scl.ls t), (g3, 27, Scl.ls y), (g1, 23, ks x)] := H.pick [3, 4, 5, 7, 8] [0, 1, 3] rfl
  refine hK6 _ _ ?_
  clear hK6
  refine wp_seq_k (fun K7 hK7 => ?_)
  refine drawnR (Grow w.heap.size [(g4, 27, Scl.ls t), (g3, 27, Scl.ls y), (g1, 23, ks x)]) (Grow w.heap.size [(g4, 27, Scl.ls t), (g3, 27, Scl.ls y), (g1, 23, ks x)]) [⟨22, fun u_ _ => u_ = .agg (ks x), [], none, false⟩, ⟨23, fun u_ _ => u_ = .agg (ks p), [0], none, false⟩, ⟨24, fun u_ _ => u_ = .agg (Scl.ls t), [], none, false⟩, ⟨25, fun u_ _ => u_ = .slice A k c, [], none, false⟩, ⟨26, LF [l], [3], none, false⟩, ⟨27, fun u_ _ => u_ = .int .i64 (er b), [1, 2, 4], none, false⟩] [0, 1, 0, 0, 8, 22, 63] [5] grow_st grow_st (by kernel_rfl) (by kernel_rfl) (by kernel_rfl) H ⟨⟨fun a W  H => by exact ob_val H (wanted_none rfl) (does_load rfl rfl (k := 2) rfl Tryd.underlying23 rfl (info_ks _)), val_grow, fun _ => val_grow⟩, ⟨fun a W y0 hy0 H => by subst hy0; exact ob_cal H (wanted_none rfl) rfl ⟨_, Tryd.func7, by kernel_rfl⟩ rfl (public_z hp W (hgl.ext H.below)), val_grow, fun _ => val_grow⟩, ⟨fun a W  H => by exact ob_val H (wanted_none rfl) (does_load rfl rfl (k := 0) rfl Tryd.underlying27 rfl (info_ls _)), val_grow, fun _ => val_grow⟩, ⟨fun a W  H => by exact ob_val H (wanted_none rfl) (does_move rfl rfl), val_grow, fun _ => val_grow⟩, ⟨fun a W y3 hy3 H => by subst hy3; exact ob_rows1 H (wanted_none rfl) rfl rfl (bf_old hm H), LF.grow, fun _ => LF.grow⟩, ⟨fun a W y1 hy1 y2 hy2 v26 hv26 H => by subst hy1; subst hy2; exact ob_cal H (wanted_none rfl) rfl ⟨_, Tryd.func6, by kernel_rfl⟩ rfl (check_any W hv26.rf (one_flat l) (fit_one hl) hpl htl hc (hgl.ext H.below)), val_grow, fun _ => val_grow⟩, trivial⟩ (by kernel_rfl) ?_
  try clear H a W
  intro a W
  rintro _ rfl
  intro H
  replace H : St 37 w a W [(27, .int .i64 (er b)), (8, .pointer (some ⟨g4, 0, none⟩)), (7, .pointer (some ⟨g3, 0, none⟩)), (6, .bool false), (3, .pointer (some ⟨g1, 0, none⟩)), (1, .slice A k c)] [(g4, 27, Scl.ls t), (g3, 27, Scl.ls y), (g1, 23, ks x)] := H
  refine pl_V (F := fun u_ _ => u_ = .int .i64 (er b)) (ob_val H (wanted_none rfl) (does_assign rfl rfl)) rfl rfl rfl H ?_
  try clear H a W
  rintro _ a W rfl H
  replace H : St 37 w a W [(9, .int .i64 (er b)), (27, .int .i64 (er b)), (8, .pointer (some ⟨g4, 0, none⟩)), (7, .pointer (some ⟨g3, 0, none⟩)), (6, .bool false), (3, .pointer (some ⟨g1, 0, none⟩)), (1, .slice A k c)] [(g4, 27, Scl.ls t), (g3, 27, Scl.ls y), (g1, 23, ks x)] := H
  refine pl_end ?_
  replace H : St 37 w a W [(9, .int .i64 (er b)), (8, .pointer (some ⟨g4, 0, none⟩)), (7, .pointer (some ⟨g3, 0, none⟩)), (6, .bool false)] [(g4, 27, Scl.ls t), (g3, 27, Scl.ls y)] := H.pick [0, 2, 3, 4] [0, 1] rfl
  refine hK7 _ _ ?_
  clear hK7
  refine wp_seq_k (fun K8 hK8 => ?_)
  refine rg_plain ?_
  refine pl_V (F := fun u_ _ => u_ = .int .i64 (er b)) (ob_val H (wanted_none rfl) (does_move rfl rfl)) rfl rfl rfl H ?_
  try clear H a W
  rintro _ a W rfl H
  replace H : St 37 w a W [(28, .int .i64 (er b)), (9, .int .i64 (er b)), (8, .pointer (some ⟨g4, 0, none⟩)), (7, .pointer (some ⟨g3, 0, none⟩)), (6, .bool false)] [(g4, 27, Scl.ls t), (g3, 27, Scl.ls y)] := H
  refine pl_V (F := fun u_ _ => u_ = .bool b) (ob_val H (wanted_none rfl) (does_binOp rfl rfl rfl (er_eq0 b _ _))) rfl rfl rfl H ?_
  try clear H a W
  rintro _ a W rfl H
  replace H : St 37 w a W [(29, .bool b), (28, .int .i64 (er b)), (9, .int .i64 (er b)), (8, .pointer (some ⟨g4, 0, none⟩)), (7, .pointer (some ⟨g3, 0, none⟩)), (6, .bool false)] [(g4, 27, Scl.ls t), (g3, 27, Scl.ls y)] := H
  refine pl_V (F := fun u_ _ => u_ = .agg (Scl.ls t)) (ob_val H (wanted_none rfl) (does_load rfl rfl (k := 0) rfl Tryd.underlying27 rfl (info_ls _))) rfl rfl rfl H ?_
  try clear H a W
  rintro _ a W rfl H
  replace H : St 37 w a W [(30, .agg (Scl.ls t)), (29, .bool b), (28, .int .i64 (er b)), (9, .int .i64 (er b)), (8, .pointer (some ⟨g4, 0, none⟩)), (7, .pointer (some ⟨g3, 0, none⟩)), (6, .bool false)] [(g4, 27, Scl.ls t), (g3, 27, Scl.ls y)] := H
  refine pl_V (F := fun u_ _ => u_ = .agg (Scl.ls y)) (ob_val H (wanted_none rfl) (does_load rfl rfl (k := 1) rfl Tryd.underlying27 rfl (info_ls _))) rfl rfl rfl H ?_
  try clear H a W
  rintro _ a W rfl H
  replace H : St 37 w a W [(31, .agg (Scl.ls y)), (30, .agg (Scl.ls t)), (29, .bool b), (28, .int .i64 (er b)), (9, .int .i64 (er b)), (8, .pointer (some ⟨g4, 0, none⟩)), (7, .pointer (some ⟨g3, 0, none⟩)), (6, .bool false)] [(g4, 27, Scl.ls t), (g3, 27, Scl.ls y)] := H
  refine pl_V (F := fun u_ _ => u_ = .bool b) (ob_val H (wanted_none rfl) (does_binOp rfl rfl rfl (seq_long htl hyl hb0 _ _))) rfl rfl rfl H ?_
  try clear H a W
  rintro _ a W rfl H
  replace H : St 37 w a W [(32, .bool b), (31, .agg (Scl.ls y)), (30, .agg (Scl.ls t)), (29, .bool b), (28, .int .i64 (er b)), (9, .int .i64 (er b)), (8, .pointer (some ⟨g4, 0, none⟩)), (7, .pointer (some ⟨g3, 0, none⟩)), (6, .bool false)] [(g4, 27, Scl.ls t), (g3, 27, Scl.ls y)] := H
  refine pl_V (F := fun u_ _ => u_ = .bool true) (ob_val H (wanted_none rfl) (does_binOp rfl rfl rfl (seq_bool b _ _))) rfl rfl rfl H ?_
  try clear H a W
  rintro _ a W rfl H
  replace H : St 37 w a W [(33, .bool true), (32, .bool b), (31, .agg (Scl.ls y)), (30, .agg (Scl.ls t)), (29, .bool b), (28, .int .i64 (er b)), (9, .int .i64 (er b)), (8, .pointer (some ⟨g4, 0, none⟩)), (7, .pointer (some ⟨g3, 0, none⟩)), (6, .bool false)] [(g4, 27, Scl.ls t), (g3, 27, Scl.ls y)] := H
  refine pl_V (F := fun u_ _ => u_ = .bool true) (ob_val H (wanted_none rfl) (does_move rfl rfl)) rfl rfl rfl H ?_
  try clear H a W
  rintro _ a W rfl H
  replace H : St 37 w a W [(34, .bool true), (33, .bool true), (32, .bool b), (31, .agg (Scl.ls y)), (30, .agg (Scl.ls t)), (29, .bool b), (28, .int .i64 (er b)), (9, .int .i64 (er b)), (8, .pointer (some ⟨g4, 0, none⟩)), (7, .pointer (some ⟨g3, 0, none⟩)), (6, .bool false)] [(g4, 27, Scl.ls t), (g3, 27, Scl.ls y)] := H
  refine pl_V (F := fun u_ _ => u_ = .bool true) (ob_cal H (wanted_some rfl rfl rfl rfl rfl) rfl ⟨_, Tryd.func4, by kernel_rfl⟩ rfl (known7 W (hgl.ext H.below))) rfl rfl rfl H ?_
  try clear H a W
  rintro _ a W rfl H
  replace H : St 37 w a W [(35, .bool true), (34, .bool true), (33, .bool true), (32, .bool b), (31, .agg (Scl.ls y)), (30, .agg (Scl.ls t)), (29, .bool b), (28, .int .i64 (er b)), (9, .int .i64 (er b)), (8, .pointer (some ⟨g4, 0, none⟩)), (7, .pointer (some ⟨g3, 0, none⟩)), (6, .bool false)] [(g4, 27, Scl.ls t), (g3, 27, Scl.ls y)] := H
  refine pl_V (F := fun u_ _ => u_ = .bool true) (ob_val H (wanted_none rfl) (does_pick rfl rfl (fun _ => rfl) (fun hb => by cases hb))) rfl rfl rfl H ?_
  try clear H a W
  rintro _ a W rfl H
  replace H : St 37 w a W [(36, .bool true), (35, .bool true), (34, .bool true), (33, .bool true), (32, .bool b), (31, .agg (Scl.ls y)), (30, .agg (Scl.ls t)), (29, .bool b), (28, .int .i64 (er b)), (9, .int .i64 (er b)), (8, .pointer (some ⟨g4, 0, none⟩)), (7, .pointer (some ⟨g3, 0, none⟩)), (6, .bool false)] [(g4, 27, Scl.ls t), (g3, 27, Scl.ls y)] := H
  replace H : St 37 w a W [(36, .bool true), (35, .bool true), (34, .bool true), (33, .bool true), (32, .bool b), (31, .agg (Scl.ls y)), (30, .agg (Scl.ls t)), (29, .bool b), (28, .int .i64 (er b)), (9, .int .i64 (er b)), (8, .pointer (some ⟨g4, 0, none⟩)), (7, .pointer (some ⟨g3, 0, none⟩))] [(g4, 27, Scl.ls t), (g3, 27, Scl.ls y)] := H.pick [0, 1, 2, 3, 4, 5, 6, 7, 8, 9, 10, 11] [0, 1] rfl
  refine pl_V (F := fun u_ _ => u_ = .bool true) (ob_val H (wanted_none rfl) (does_assign rfl rfl)) rfl rfl rfl H ?_
  try clear H a W
  rintro _ a W rfl H
  replace H : St 37 w a W [(6, .bool true), (36, .bool true), (35, .bool true), (34, .bool true), (33, .bool true), (32, .bool b), (31, .agg (Scl.ls y)), (30, .agg (Scl.ls t)), (29, .bool b), (28, .int .i64 (er b)), (9, .int .i64 (er b)), (8, .pointer (some ⟨g4, 0, none⟩)), (7, .pointer (some ⟨g3, 0, none⟩))] [(g4, 27, Scl.ls t), (g3, 27, Scl.ls y)] := H
  refine pl_end ?_
  replace H : St 37 w a W [(6, .bool true)] [] := H.pick [0] [] rfl
  refine hK8 _ _ ?_
  clear hK8
  refine wp_ret ?_
  repeat (first | (with_reducible refine then_ret ?_) | (with_reducible refine blk_ret ?_))
  refine end_tmp (p := 6) rfl rfl H (fun hb => ?_)
  exact ⟨rfl, hb⟩
theorem law_other {A : Option Addr} {k c : Nat} {x s : Nat} {l : List UInt8} (w : World) (hm : BF l (.slice A k c) w) (hs : s < 115792089237316195423570985008687907853269984665640564039457584007913129639936) (hgl : GL w) : Calls Tryd.prog 3 #[.agg (ks x), .slice A k c, .agg (ks s)] w (fun rr w' => rr = .returned (.bool true) ∧ Below w.heap.size w w') := by
  by_cases h : k ≤ 500
  · exact other_b w hm hs h hgl
  · exact other_a w hm hs (by omega) hgl
end Go.Proofs.YtpagiffbjofihaaDoor
