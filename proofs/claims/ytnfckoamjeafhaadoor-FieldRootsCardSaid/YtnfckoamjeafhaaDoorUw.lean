/- Slices of numbers (uint64) as lists: what reads so, what is the call's own, append. -/
import Derived.Test.YtnfckoamjeafhaaDoorCo
import Derived.Deep.RegionLaw
import Derived.Maps.AppendAt
namespace Go.Proofs.YtnfckoamjeafhaaDoor
set_option linter.unusedVariables false
set_option linter.unusedSimpArgs false
open Go Go.RowKit

theorem cs64_at (l : List Nat) (i : Nat) : (cs64 l)[i]? = l[i]?.map (nc .u64) := ncs_get _ _ _
theorem nc_def (x : Nat) : nc .u64 x = .int .u64 (x : Int) := rfl
/-- The slice '(A, n, c)' reads as the bytes l; what is read lies below block B. -/
structure US (w : World) (B : Nat) (A : Option Addr) (n c : Nat) (l : List Nat) : Prop where
  len : l.length = n
  cap : n ≤ c
  nil_ : A = none → c = 0
  at_ : 0 < n → ∃ b o, A = some ⟨b, o, none⟩ ∧ b < B ∧ ∀ (j x : Nat), l[j]? = some x → w.cell? ⟨b, o + j, none⟩ = some (.int .u64 (x : Int))

section
variable {w w' : World} {B B' n c : Nat} {A : Option Addr} {l : List Nat}
theorem US.nil (w : World) (B : Nat) : US w B none 0 0 [] := ⟨rfl, Nat.le_refl _, fun _ => rfl, fun h => absurd h (by omega)⟩
theorem US.keep (h : US w B A n c l) (hk : ∀ p : Addr, p.block < B → w'.cell? p = w.cell? p) : US w' B A n c l :=
  ⟨h.len, h.cap, h.nil_, fun hn => by
    obtain ⟨b, o, e, hb, hc⟩ := h.at_ hn
    exact ⟨b, o, e, hb, fun j x hx => (hk _ hb).trans (hc j x hx)⟩⟩
theorem US.more (h : US w B A n c l) (hB : B ≤ B') : US w B' A n c l :=
  ⟨h.len, h.cap, h.nil_, fun hn => by
    obtain ⟨b, o, e, hb, hc⟩ := h.at_ hn
    exact ⟨b, o, e, by omega, hc⟩⟩
theorem US.below (h : US w B A n c l) (hb : Below B w w') : US w' B A n c l := h.keep fun _ hp => hb.cell hp
theorem US.drew (h : US w B A n c l) : US w.drew B A n c l := ⟨h.1, h.2, h.3, h.4⟩
theorem US.drewN (h : US w B A n c l) (k : Nat) : US (w.drewN k) B A n c l := ⟨h.1, h.2, h.3, h.4⟩
theorem US.alloc (h : US w B A n c l) (hB : B ≤ w.heap.size) (o : Obj) : US (w.alloc o) B A n c l := h.keep fun p hp => World.cell?_alloc_lt w o p (by omega)
theorem US.setCell (h : US w B A n c l) {p : Addr} (hB : B ≤ p.block) (u : Value) : US (w.setCell p u) B A n c l :=
  h.keep fun q hq => World.cell?_setCell_other w p q u (fun e => by subst e; omega)
theorem US.grown (h : US w B A n c l) {row : Option Nat} (hg : w.grownBy w' row) (hB : B ≤ w.heap.size) (hr : ∀ g, row = some g → B ≤ g) : US w' B A n c l :=
  h.keep fun p hp => World.cell?_of_block (hg.block p.block (by omega) (fun e => by have := hr _ e.symm; omega))
/-- What is read there is the block's. -/
theorem US.ofBlk {g : Nat} {t : TypeId} (h : Blk w g t (cs64 l)) (n : Nat) (hn : n = l.length) (B : Nat) (hB : g < B) : US w B (some ⟨g, 0, none⟩) n n l :=
  ⟨hn.symm, Nat.le_refl _, (by intro e; cases e), fun _ => ⟨g, 0, rfl, hB, fun j x hx => by rw [Nat.zero_add, h.cell, cs64_at, hx]; rfl⟩⟩
theorem US.at' (h : US w B A n c l) {k : Nat} (hk : k < n) : ∃ b o x, A = some ⟨b, o, none⟩ ∧ b < B ∧ l[k]? = some x ∧ w.cell? ⟨b, o + k, none⟩ = some (.int .u64 (x : Int)) := by
  obtain ⟨b, o, e, hb, hc⟩ := h.at_ (by omega)
  have hl : k < l.length := by have := h.len; omega
  exact ⟨b, o, l[k], e, hb, List.getElem?_eq_getElem hl, hc k _ (List.getElem?_eq_getElem hl)⟩
end

/-- The slice v of bytes l is the call's own: nil and nothing, or the head of a block from 'base' on. -/
def OwnU (w : World) (base : Nat) (e : TypeId) (v : Value) (l : List Nat) : Prop := w.ownsRow base e 1 v l.length (l.map (nc .u64))

section
variable {w w' : World} {base : Nat} {e : TypeId} {v : Value} {l : List Nat}
theorem OwnU.nil (w : World) (base : Nat) (e : TypeId) : OwnU w base e (.slice none 0 0) [] := ⟨rfl, .inl ⟨rfl, rfl⟩⟩
theorem OwnU.alloc (h : OwnU w base e v l) (o : Obj) : OwnU (w.alloc o) base e v l := World.ownsRow.alloc h o
theorem OwnU.drew (h : OwnU w base e v l) : OwnU w.drew base e v l := h
theorem OwnU.drewN (h : OwnU w base e v l) (k : Nat) : OwnU (w.drewN k) base e v l := h
theorem OwnU.ofBlk {g : Nat} (h : Blk w g e (cs64 l)) (n : Nat) (hn : n = l.length) (hm : n ≤ maxLen) (hb : base ≤ g) : OwnU w base e (.slice (some ⟨g, 0, none⟩) n n) l := by
  subst hn
  exact ⟨by simp, .inr ⟨g, _, _, rfl, hb, h, Nat.le_refl _, hm, by simp [cs64, ncs], by rw [List.take_of_length_le (by simp [cs64_size])]; simp [cs64, ncs]⟩⟩
theorem OwnU.form (h : OwnU w base e v l) : ∃ A n c, v = .slice A n c ∧ US w w.heap.size A n c l ∧ ∀ g, v.ownBlock = some g → base ≤ g := by
  have hlt := World.ownsRow.lt h
  rcases h.2 with ⟨rfl, h0⟩ | ⟨g, cap, cur, rfl, hb, hh, hc, hm, hs, ht⟩
  · obtain rfl : l = [] := List.eq_nil_of_length_eq_zero h0
    exact ⟨none, 0, 0, rfl, US.nil _ _, fun g hg => (hlt g hg).1⟩
  · refine ⟨_, _, _, rfl, ⟨rfl, hc, by intro e; (cases e), fun _ => ⟨g, 0, rfl, (hlt g rfl).2, fun j x hx => ?_⟩⟩, fun g hg => (hlt g hg).1⟩
    have := World.ownsRow.cells h (g := g) rfl j (nc .u64 x) (by simp [hx])
    rw [Addr.add_lit] at this
    exact this
theorem OwnU.own (h : OwnU w base e v l) {g : Nat} (hg : v.ownBlock = some g) : base ≤ g ∧ g < w.heap.size := World.ownsRow.lt h g hg
end

section
variable {P : Program} {w : World} {ops : Array Oper} {rest : List Oper} {o : Oper} {a : Act} {Q : Exit → Act → World → Prop}
theorem us_cells {B : Nat} {A : Option Addr} {m c : Nat} {l : List Nat} (hr : US w B A m c l) : ∀ ad, A = some ad → ∀ j u, (l.map (nc .u64))[j]? = some u → w.cell? (ad.add j) = some u := by
  rintro ad rfl j u hu
  rw [List.getElem?_map] at hu
  obtain ⟨x, hx, rfl⟩ := Option.map_eq_some_iff.1 hu
  obtain ⟨b, o, e, _, hc⟩ := hr.at_ (by have := hr.len; have := (List.getElem?_eq_some_iff.1 hx).1; omega)
  injection e with e
  subst e
  rw [Addr.add_lit]
  exact hc j x hx
theorem nc_all (l : List Nat) : ∀ u ∈ l.map (nc .u64), u.oneCell' = true := by
  intro u hu
  obtain ⟨_, _, rfl⟩ := List.mem_map.1 hu
  rfl

/-- 'append(v, x...)' of bytes, v the call's own: it may grow. -/
theorem run_app_ownU (t ty : TypeId)
    (e : TypeId) (ht : P.underlying t = some (.slice e)) (he : (P.info? e).map (fun i => (i.zero, i.size, i.bytes)) = some (some (.int .u64 0), 1, 8))
    (base : Nat) (v : Value) (l : List Nat) (hown : OwnU w base e v l)
    (B m c : Nat) (A : Option Addr) (l2 : List Nat) (hr : US w B A m c l2) (hbig : l.length + m ≤ 1000000) (hbase : base ≤ w.heap.size) :
    ∃ v' w', (Builtin.append_ #[t, t] ty #[v, .slice A m c]).run P w = .ok v' w' ∧ OwnU w' base e v' (l ++ l2) ∧ w.grownBy w' v.ownBlock ∧ (v'.ownBlock = v.ownBlock ∨ v'.ownBlock = some w.heap.size) := by
  obtain ⟨i, hi, hz, hsz, hby⟩ := info_parts he
  have hm := hr.len
  subst hm
  rcases A with _ | ad
  · have h0 := hr.nil_ rfl
    have h1 := hr.cap
    obtain rfl : l2 = [] := List.eq_nil_of_length_eq_zero (by omega)
    subst h0
    exact ⟨v, w, run_append_owned_none (P := P) w base t ty e i 1 ht hi v _ _ hown, by simpa using hown, World.grownBy.refl _ _, .inl rfl⟩
  · obtain ⟨v', w', h1, h2, h3, _, h5⟩ := run_append_own_at (P := P) w base t ty e i _ 1 8 ht hi hz hsz hby rfl (by omega) v _ _ hown ad l2.length c (l2.map (nc .u64)) (by simp) (us_cells hr _ rfl) (nc_all _) (by simp only [maxLen]; omega) (by omega) hbase
    exact ⟨v', w', h1, by unfold OwnU; rw [List.length_append, List.map_append]; exact h2, h3, h5⟩
theorem wpList_app_ownU (hg : o.guard = none) (s x : Operand) (t : TypeId) (ho : o.op = .call { callee := .builtin .append, args := #[s, x], argTypes := #[t, t] })
    (e : TypeId) (ht : P.underlying t = some (.slice e)) (he : (P.info? e).map (fun i => (i.zero, i.size, i.bytes)) = some (some (.int .u64 0), 1, 8))
    (base : Nat) (v : Value) (l : List Nat) (hs : a.eval s = v) (hown : OwnU w base e v l)
    (B m c : Nat) (A : Option Addr) (l2 : List Nat) (hx : a.eval x = .slice A m c) (hr : US w B A m c l2) (hbig : l.length + m ≤ 1000000) (hbase : base ≤ w.heap.size)
    (h : ∀ v' w', OwnU w' base e v' (l ++ l2) → w.grownBy w' v.ownBlock → (v'.ownBlock = v.ownBlock ∨ v'.ownBlock = some w.heap.size) → wpList P ops Q rest (a.put o.dst v') w') : wpList P ops Q (o :: rest) a w := by
  refine wpList_plain hg fun K hK => ?_
  obtain ⟨v', w', hrun, h1, h2, h3⟩ := run_app_ownU (P := P) (w := w) t o.type e ht he base v l hown B m c A l2 hr hbig hbase
  unfold Oper.wp
  simp [execOp, ho, resolve, invoke, builtin, hs, hx, hrun, Result.andThen]
  exact hK _ _ (h v' w' h1 h2 h3)

end
section
variable {P : Program} {w : World} {ops : Array Oper} {o : Oper} {a : Act} {K : Act → World → Prop} {Q : Exit → Act → World → Prop} {E : Prop}
theorem step_app_ownU (hg : o.guard = none) (s x : Operand) (t : TypeId) (ho : o.op = .call { callee := .builtin .append, args := #[s, x], argTypes := #[t, t] })
    (e : TypeId) (ht : P.underlying t = some (.slice e)) (he : (P.info? e).map (fun i => (i.zero, i.size, i.bytes)) = some (some (.int .u64 0), 1, 8))
    (base : Nat) (v : Value) (l : List Nat) (hs : a.eval s = v) (hown : OwnU w base e v l)
    (B m c : Nat) (A : Option Addr) (l2 : List Nat) (hx : a.eval x = .slice A m c) (hr : US w B A m c l2) (hbig : l.length + m ≤ 1000000) (hbase : base ≤ w.heap.size)
    (h : ∀ v' w', OwnU w' base e v' (l ++ l2) → w.grownBy w' v.ownBlock → (v'.ownBlock = v.ownBlock ∨ v'.ownBlock = some w.heap.size) → K (a.put o.dst v') w') :
    if Region.wanted o (yielded ops a.tmps) = true then Oper.wp P o a w K Q else E := by
  have hw : Region.wanted o (yielded ops a.tmps) = true := by simp [Region.wanted, hg]
  rw [if_pos hw]
  obtain ⟨v', w', hrun, h1, h2, h3⟩ := run_app_ownU (P := P) (w := w) t o.type e ht he base v l hown B m c A l2 hr hbig hbase
  unfold Oper.wp
  simp [execOp, ho, resolve, invoke, builtin, hs, hx, hrun, Result.andThen]
  exact h v' w' h1 h2 h3
end
end Go.Proofs.YtnfckoamjeafhaaDoor
