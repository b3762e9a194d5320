/- The chapter's rows: 'known' answers true. -/
import Derived.Test.YtnfckoamjeafhaaDoorFi
namespace Go.Proofs.YtnfckoamjeafhaaDoor
set_option linter.unusedVariables false
set_option linter.unusedSimpArgs false
open Go.RowKit

theorem invR {x y : Fin PP} (h : y = x ^ (PP - 2)) (w : World) (hp : PG w) : Calls Tryd.prog 35 #[.agg (ev x)] w (EPost y w) := by
  have h2 := inv_any x w hp
  rw [← h] at h2
  exact h2
theorem four_two : sm 4 = sm 2 * sm 2 := by decide +kernel
theorem two_nz : sm 2 ≠ 0 := by decide +kernel
theorem half_four {y : Fin PP} (h : y = sm 2 ^ (PP - 2)) : y * sm 4 = sm 2 := by
  have h2 := fp_inv PP_prime two_nz
  rw [← h] at h2
  rw [four_two]
  generalize sm 2 = t at *
  grind
theorem less_one : (sm 0 - sm 1).val = PP - 1 := by decide +kernel
theorem row_0 : (ks (PP - 1))[0]? = some (.int .u8 236) := by
  rw [ks_get _ (by omega), show (PP - 1) / 256 ^ 0 % 256 = 236 by decide +kernel]
  rfl
theorem row_1 : (ks (PP - 1))[1]? = some (.int .u8 255) := by
  rw [ks_get _ (by omega), show (PP - 1) / 256 ^ 1 % 256 = 255 by decide +kernel]
  rfl
theorem row_30 : (ks (PP - 1))[30]? = some (.int .u8 255) := by
  rw [ks_get _ (by omega), show (PP - 1) / 256 ^ 30 % 256 = 255 by decide +kernel]
  rfl
theorem row_31 : (ks (PP - 1))[31]? = some (.int .u8 127) := by
  rw [ks_get _ (by omega), show (PP - 1) / 256 ^ 31 % 256 = 127 by decide +kernel]
  rfl
theorem bytes_row {x : Fin PP} {n : Nat} (h : x.val = n) (w : World) : Calls Tryd.prog 8 #[.agg (ev x)] w (KeyPost n w) := by
  subst h
  exact bytesF x w
set_option maxRecDepth 100000 in
set_option maxHeartbeats 1000000 in
theorem known_any (w : World) (hpg : PG w) : Calls Tryd.prog 14 #[] w (BPost true w) := by
  have HP := Lib.hid hpg
  have hfr := Fr.start w
  have HF := Lib.hid hfr
  clear hpg hfr
  obtain ⟨x1, hx1⟩ : ∃ x, x = sm 0 - sm 1 := ⟨_, rfl⟩
  have hn : x1.val = PP - 1 := by rw [hx1]; exact less_one
  have HX := Lib.hid hx1
  have HN := Lib.hid hn
  clear hx1 hn
  obtain ⟨y, hy⟩ : ∃ y, y = sm 2 ^ (PP - 2) := ⟨_, rfl⟩
  have HY := Lib.hid hy
  clear hy
  go_enter Tryd.func14, Tryd.ntmps14
  go_wp2_with (fail)
  refine (smallF 0 _ (by omega)).mono ?_
  rintro e v1 ⟨rfl, hb⟩
  have hf := HF.out.ext hb
  have H1 := Lib.hid hf
  clear hb hf
  go_wp2_with (fail)
  refine (smallF 1 _ (by omega)).mono ?_
  rintro e v2 ⟨rfl, hb⟩
  have hf := H1.out.ext hb
  have H2 := Lib.hid hf
  clear hb hf
  go_wp2_with (fail)
  refine (subF _ _ _ (H2.out.pg HP.out)).mono ?_
  rintro e v3 ⟨he, hb⟩
  rw [← HX.out] at he
  subst he
  have hf := H2.out.ext hb
  have H3 := Lib.hid hf
  clear hb hf
  go_wp2_with (fail)
  refine (bytes_row HN.out _).mono ?_
  rintro e v4 ⟨rfl, hb⟩
  have hf := H3.out.ext hb
  have H4 := Lib.hid hf
  clear hb hf
  have hz := (H4.out.row (ks 0) 23 (g := v4.heap.size) rfl).setRowHead (by simp) (by simp) (ks (PP - 1)) H4.out.size
  have kz := Blk.new v4 23 (ks 0)
  rw [ks_zero] at hz kz
  have hsz : (#[Value.int .u8 0, .int .u8 0, .int .u8 0, .int .u8 0, .int .u8 0, .int .u8 0, .int .u8 0, .int .u8 0, .int .u8 0, .int .u8 0, .int .u8 0, .int .u8 0, .int .u8 0, .int .u8 0, .int .u8 0, .int .u8 0, .int .u8 0, .int .u8 0, .int .u8 0, .int .u8 0, .int .u8 0, .int .u8 0, .int .u8 0, .int .u8 0, .int .u8 0, .int .u8 0, .int .u8 0, .int .u8 0, .int .u8 0, .int .u8 0, .int .u8 0, .int .u8 0] : Array Value).size = (ks (PP - 1)).size := by rw [ks_size]; rfl
  have HZ := Lib.hid hz
  have HS := Lib.hid hsz
  clear hz hsz
  go_wp2_with (first | (refine wpList_store_row rfl 23 (.tmp 1) (.tmp 5) rfl v4.heap.size (ks (PP - 1)) rfl rfl 23 _ kz (info_ks _) HS.out (ks_one _) ?_))
  refine (smallF 2 _ (by omega)).mono ?_
  rintro e v5 ⟨rfl, hb⟩
  have hf := HZ.out.ext hb
  have H5 := Lib.hid hf
  clear hb hf kz
  go_wp2_with (fail)
  refine (invR HY.out _ (H5.out.pg HP.out)).mono ?_
  rintro e v6 ⟨rfl, hb⟩
  have hf := H5.out.ext hb
  have H6 := Lib.hid hf
  clear hb hf
  go_wp2_with (fail)
  refine (smallF 4 _ (by omega)).mono ?_
  rintro e v7 ⟨rfl, hb⟩
  have hf := H6.out.ext hb
  have H7 := Lib.hid hf
  clear hb hf
  go_wp2_with (fail)
  refine (mulF _ _ _ (H7.out.pg HP.out)).mono ?_
  rintro e v8 ⟨he, hb⟩
  rw [half_four HY.out] at he
  subst he
  have hf := H7.out.ext hb
  have H8 := Lib.hid hf
  clear hb hf
  go_wp2_with (fail)
  refine (smallF 2 _ (by omega)).mono ?_
  rintro e v9 ⟨rfl, hb⟩
  have hf := H8.out.ext hb
  have H9 := Lib.hid hf
  clear hb hf
  go_wp2_with (fail)
  refine (equal_yes rfl _).mono ?_
  rintro e v10 ⟨rfl, hb⟩
  have hf := H9.out.ext hb
  have kk := hf.get (g := v4.heap.size) (t := 23) (cs := ks (PP - 1)) (by simp)
  have c0 := kk.cell 0
  have c1 := kk.cell 1
  have c30 := kk.cell 30
  have c31 := kk.cell 31
  rw [row_0] at c0
  rw [row_1] at c1
  rw [row_30] at c30
  rw [row_31] at c31
  have HB := Lib.hid hf.below
  clear hb hf kk
  go_wp2_with (fail)
  go_ret
  exact ⟨rfl, HB.out⟩
end Go.Proofs.YtnfckoamjeafhaaDoor
