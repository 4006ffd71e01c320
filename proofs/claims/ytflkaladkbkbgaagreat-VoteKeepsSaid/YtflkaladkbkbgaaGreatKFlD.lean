/- What a disk is made of lies apart; what comes of it where one file, or the power, is changed. -/
import Derived.Test.YtflkaladkbkbgaaGreatKFlA
namespace Go.Proofs.YtflkaladkbkbgaaGreat
set_option linter.unusedVariables false
set_option linter.unusedSimpArgs false
open Go.RowKit Go.Maps
set_option maxRecDepth 100000

/-- The type of a block's elements. -/
def tagOf (w : World) (b : Nat) : Option TypeId := match w.heap[b]? with | some (.cells _ t _) => some t | _ => none
theorem tag_of {w : World} {b : Nat} {cs : Array Value} {t : TypeId} {fr : Nat × Nat} (h : w.heap[b]? = some (.cells cs t fr)) : tagOf w b = some t := by unfold tagOf; rw [h]
theorem OwnB.tag {w : World} {B : Nat} {v : Value} {l : List UInt8} (h : OwnB w B v l) {k : Nat} (hk : v.ownBlock = some k) : tagOf w k = some 5 := by
  rcases h.2 with ⟨rfl, -⟩ | ⟨g, cap, cur, rfl, -, hh, -⟩
  · cases hk
  · cases hk; exact tag_of hh
theorem OwnB.ltk {w : World} {B : Nat} {v : Value} {l : List UInt8} (h : OwnB w B v l) {k : Nat} (hk : v.ownBlock = some k) : k < w.heap.size := (World.ownsRow.lt h k hk).2
theorem FileAt.tagg {w : World} {Ft : Nat → Prop} {g : Nat} {v : Value} {f : FileM} (h : FileAt w Ft g v f) : tagOf w g = some 89 := tag_of h.blk
theorem FileAt.lt {w : World} {Ft : Nat → Prop} {g : Nat} {v : Value} {f : FileM} (h : FileAt w Ft g v f) : g < w.heap.size := (Array.getElem?_eq_some_iff.1 h.blk).1
theorem FileAt.c0 {w : World} {Ft : Nat → Prop} {g : Nat} {v : Value} {f : FileM} (h : FileAt w Ft g v f) : w.cell? ⟨g, 0, none⟩ = some v := by simp [World.cell?, h.blk]
theorem FileAt.c1 {w : World} {Ft : Nat → Prop} {g : Nat} {v : Value} {f : FileM} (h : FileAt w Ft g v f) : w.cell? ⟨g, 1, none⟩ = some (.int .i64 (f.sure : Int)) := by simp [World.cell?, h.blk]
theorem FileAt.uf {w : World} {Ft : Nat → Prop} {g : Nat} {v : Value} {f : FileM} (h : FileAt w Ft g v f) (i : Nat) : w.frozen? ⟨g, i, none⟩ = false := Go.Joins.unfrozen_of_block h.blk i
theorem FileAt.ft {w : World} {Ft Ft' : Nat → Prop} {g : Nat} {v : Value} {f : FileM} (h : FileAt w Ft g v f) (hF : ∀ b, Ft b → Ft' b) : FileAt w Ft' g v f := h.keep (fun _ _ => rfl) hF

section
variable {w : World} {Ft : Nat → Prop} {d m : Nat} {gs : List UInt8 → Option Nat} {rv : List UInt8 → Value} {D : DataW Unit} {M : DiskM}
theorem DiskAt.tagd (h : DiskAt w Ft d m gs rv D M) : tagOf w d = some 49 := tag_of h.disk
theorem DiskAt.tagm (h : DiskAt w Ft d m gs rv D M) : tagOf w m = none := by
  obtain ⟨es, clock, hb, -⟩ := h.map
  unfold tagOf; rw [hb]
theorem DiskAt.mono (h : DiskAt w Ft d m gs rv D M) {Ft' : Nat → Prop} (hF : ∀ b, Ft b → Ft' b) : DiskAt w Ft' d m gs rv D M :=
  ⟨h.disk, h.map, h.cnt, h.c256, h.at', h.has, h.ok, fun nm g f hg hf => (h.file nm g f hg hf).ft hF, h.inj, h.rows, h.nms, hF _ h.fd, hF _ h.fm, h.rng⟩
theorem DiskAt.ex (h : DiskAt w Ft d m gs rv D M) {nm : List UInt8} {g : Nat} (hg : gs nm = some g) : ∃ f, M.fs nm = some f ∧ FileAt w Ft g (rv nm) f := by
  have := h.ok nm
  rw [hg] at this
  cases hf : M.fs nm with
  | none => rw [hf] at this; cases this
  | some f => exact ⟨f, rfl, h.file nm g f hg hf⟩
/-- Only the power is another one. -/
theorem DiskAt.power (h : DiskAt w Ft d m gs rv D M) {w' : World} (M' : DiskM) (hfs : M'.fs = M.fs) (hc : M'.cnt = M.cnt) (hr : -1 ≤ M'.left ∧ M'.left ≤ 9223372036854775807 ∧ 0 ≤ M'.torn ∧ M'.torn ≤ 9223372036854775807)
    (hd : w'.heap[d]? = some (.cells #[.map (some m), .int .i64 M'.left, .int .i64 M'.torn, .bool M'.gone] 49 (0, 0))) (hk : ∀ b, b ≠ d → w'.heap[b]? = w.heap[b]?) : DiskAt w' Ft d m gs rv D M' := by
  have htd := h.tagd
  have hmd : m ≠ d := fun e => by have := h.tagm; rw [e, htd] at this; cases this
  refine ⟨hd, by rw [hc]; exact ownsMap_keep h.map (hk m hmd), by rw [hc]; exact h.cnt, by rw [hc]; exact h.c256, h.at', h.has, by rw [hfs]; exact h.ok, fun nm g f hg hf => ?_, h.inj, h.rows, h.nms, h.fd, h.fm, hr⟩
  · rw [hfs] at hf
    have hF := h.file nm g f hg hf
    refine hF.keep (fun b hb => hk b fun e => ?_) fun _ x => x
    rcases hb with rfl | hb
    · have := hF.tagg; rw [e, htd] at this; exact absurd this (by decide)
    · have := hF.own.tag hb; rw [e, htd] at this; exact absurd this (by decide)
theorem put_fs_same (M : DiskM) (nm : List UInt8) (f : FileM) : (M.put nm f).fs nm = some f := by simp [DiskM.put]
theorem put_fs_other (M : DiskM) (nm x : List UInt8) (f : FileM) (h : x ≠ nm) : (M.put nm f).fs x = M.fs x := by simp [DiskM.put, h]
theorem put_cnt_there (M : DiskM) (nm : List UInt8) (f : FileM) (h : (M.fs nm).isSome = true) : (M.put nm f).cnt = M.cnt := by simp [DiskM.put, h]
/-- A file that is there is another one; its row is in the old one's place, or new. -/
theorem DiskAt.setFile (h : DiskAt w Ft d m gs rv D M) {w' : World} {nm : List UInt8} {g : Nat} (hg : gs nm = some g) {v' : Value} {f' : FileM} (hF : FileAt w' Ft g v' f')
    (hv : ∀ k, v'.ownBlock = some k → (rv nm).ownBlock = some k) (hk : ∀ b, b ≠ g → some b ≠ (rv nm).ownBlock → w'.heap[b]? = w.heap[b]?) :
    DiskAt w' Ft d m gs (fun x => if x = nm then v' else rv x) D (M.put nm f') := by
  obtain ⟨f, hf, hF0⟩ := h.ex hg
  have hs : (M.fs nm).isSome = true := by rw [hf]; rfl
  have hapart : ∀ b, tagOf w b ≠ some 89 → tagOf w b ≠ some 5 → w'.heap[b]? = w.heap[b]? := fun b h1 h2 =>
    hk b (fun e => h1 (by rw [e]; exact hF0.tagg)) (fun e => h2 (hF0.own.tag e.symm))
  refine ⟨(hapart d (by rw [h.tagd]; decide) (by rw [h.tagd]; decide)).trans h.disk, ?_, ?_, ?_, h.at', h.has, fun x => ?_, fun x gx fx hgx hfx => ?_, h.inj, fun a b k ha hb hra hrb => ?_, h.nms, h.fd, h.fm, h.rng⟩
  · rw [put_cnt_there M nm f' hs]
    exact ownsMap_keep h.map (hapart m (by rw [h.tagm]; simp) (by rw [h.tagm]; simp))
  · rw [put_cnt_there M nm f' hs]; exact h.cnt
  · rw [put_cnt_there M nm f' hs]; exact h.c256
  · by_cases e : x = nm
    · subst e; rw [put_fs_same, hg]; rfl
    · rw [put_fs_other M nm x f' e]; exact h.ok x
  · by_cases e : x = nm
    · subst e
      rw [put_fs_same] at hfx
      cases hfx
      rw [hg] at hgx
      cases hgx
      rw [if_pos rfl]
      exact hF
    · rw [put_fs_other M nm x f' e] at hfx
      rw [if_neg e]
      have hFx := h.file x gx fx hgx hfx
      refine hFx.keep (fun b hb => hk b (fun e2 => ?_) (fun e2 => ?_)) fun _ x => x
      · rcases hb with rfl | hb
        · subst e2; exact e (h.inj _ _ _ hgx hg)
        · have h1 := hFx.own.tag hb; rw [e2, hF0.tagg] at h1; exact absurd h1 (by decide)
      · rcases hb with rfl | hb
        · have h1 := hF0.own.tag e2.symm; rw [hFx.tagg] at h1; exact absurd h1 (by decide)
        · exact e (h.rows x nm b (by rw [hgx]; rfl) (by rw [hg]; rfl) hb e2.symm)
  · by_cases ea : a = nm <;> by_cases eb : b = nm
    · rw [ea, eb]
    · rw [if_pos ea] at hra; rw [if_neg eb] at hrb
      rw [ea]; exact h.rows nm b k (by rw [hg]; rfl) hb (hv k hra) hrb
    · rw [if_neg ea] at hra; rw [if_pos eb] at hrb
      rw [eb]; exact h.rows a nm k ha (by rw [hg]; rfl) hra (hv k hrb)
    · rw [if_neg ea] at hra; rw [if_neg eb] at hrb
      exact h.rows a b k ha hb hra hrb
/-- A file is laid at a name: one that was there, longer, or one that is new. -/
structure Cand (w : World) (Ft : Nat → Prop) (d m : Nat) (gs : List UInt8 → Option Nat) (rv : List UInt8 → Value) (D : DataW Unit) (M : DiskM) (nm : List UInt8) (g : Nat) (v : Value) (f : FileM) : Prop where
  disk : DiskAt w Ft d m gs rv D M
  file : FileAt w Ft g v f
  good : badNm nm = false
  or : (gs nm = some g ∧ rv nm = v ∧ M.fs nm = some f) ∨ ((∀ a, gs a ≠ some g) ∧ (∀ a k, (gs a).isSome = true → (rv a).ownBlock = some k → v.ownBlock = some k → False) ∧ ((gs nm).isSome = true ∨ M.cnt < 256))
theorem lit_str_ne {a b : List UInt8} (h : a ≠ b) : (Lit.string a) ≠ (Lit.string b) := fun e => h (by injection e)
theorem DiskAt.putFile {nm : List UInt8} {g : Nat} {v : Value} {f : FileM} (c : Cand w Ft d m gs rv D M nm g v f) {w' : World} {Ft' : Nat → Prop} {v' : Value} {f' : FileM} (hft : ∀ b, Ft b → Ft' b)
    (hm : w'.ownsMap Tryz.prog 9 fileR m (M.cnt + 1) (D.put (.string nm) (.lit (.int .i64 (g : Int))))) (hF : FileAt w' Ft' g v' f') (hv : ∀ k, v'.ownBlock = some k → v.ownBlock = some k ∨ w.heap.size ≤ k)
    (hk : ∀ b, b < w.heap.size → b ≠ g → b ≠ m → some b ≠ v.ownBlock → w'.heap[b]? = w.heap[b]?) :
    DiskAt w' Ft' d m (fun x => if x = nm then some g else gs x) (fun x => if x = nm then v' else rv x) (D.put (.string nm) (.lit (.int .i64 (g : Int)))) (M.put nm f') := by
  have h := c.disk
  have hkey : WideAt.IsKeyLit (Lit.string nm) := trivial
  obtain ⟨es, hD, -, -⟩ := h.map.entries fkeyed
  have hmap : IsMap D := ⟨es, hD⟩
  have htidy : Tidy D := h.map.tidy fkeyed
  have hsome : ∀ x, ((if x = nm then some g else gs x) : Option Nat).isSome = ((M.put nm f').fs x).isSome := fun x => by
    by_cases e : x = nm
    · subst e; rw [put_fs_same, if_pos rfl]; rfl
    · rw [put_fs_other M nm x f' e, if_neg e]; exact h.ok x
  have hcnt : (M.put nm f').cnt = if (gs nm).isSome then M.cnt else M.cnt + 1 := by rw [h.ok nm]; rfl
  have hsz : Maps.size (D.put (.string nm) (.lit (.int .i64 (g : Int)))) = (M.put nm f').cnt := by
    rw [size_put htidy, h.has, hcnt, h.cnt]
  have hvm : ∀ k, v.ownBlock = some k → k ≠ d := fun k hk e => by have := c.file.own.tag hk; rw [e, h.tagd] at this; exact absurd this (by decide)
  have hother : ∀ x gx fx, x ≠ nm → gs x = some gx → M.fs x = some fx → FileAt w' Ft' gx (rv x) fx := fun x gx fx e hgx hfx => by
    have hFx := h.file x gx fx hgx hfx
    have hgne : gx ≠ g := fun e2 => by
      rcases c.or with ⟨h1, -, -⟩ | ⟨h2, -, -⟩
      · exact e (h.inj _ _ _ hgx (by rw [h1, e2]))
      · exact h2 x (by rw [hgx, e2])
    refine hFx.keep (fun b hb => ?_) hft
    rcases hb with rfl | hb
    · refine hk _ hFx.lt hgne (fun e2 => ?_) (fun e2 => ?_)
      · have := hFx.tagg; rw [e2, h.tagm] at this; cases this
      · have := c.file.own.tag e2.symm; rw [hFx.tagg] at this; exact absurd this (by decide)
    · have ht := hFx.own.tag hb
      refine hk b (hFx.own.ltk hb) (fun e2 => ?_) (fun e2 => ?_) (fun e2 => ?_)
      · rw [e2, c.file.tagg] at ht; exact absurd ht (by decide)
      · rw [e2, h.tagm] at ht; cases ht
      · rcases c.or with ⟨h1, h3, -⟩ | ⟨-, h3, -⟩
        · exact e (h.rows x nm b (by rw [hgx]; rfl) (by rw [h1]; rfl) hb (by rw [h3]; exact e2.symm))
        · exact h3 x b (by rw [hgx]; rfl) hb e2.symm
  refine ⟨(hk d h.lt (fun e => ?_) (fun e => ?_) (fun e => hvm d e.symm rfl)).trans h.disk, hsz ▸ ownsMap_exact hm, hsz, ?_, fun x => ?_, fun x => ?_, hsome, fun x gx fx hgx hfx => ?_, fun a b k ha hb => ?_, fun a b k ha hb hra hrb => ?_, fun x hx => ?_, hft _ h.fd, hft _ h.fm, h.rng⟩
  · have := h.tagd; rw [e, c.file.tagg] at this; exact absurd this (by decide)
  · have := h.tagd; rw [e, h.tagm] at this; cases this
  · rw [hcnt]
    rcases c.or with ⟨h1, -, -⟩ | ⟨-, -, h4⟩
    · rw [h1]; exact h.c256
    · split
      · exact h.c256
      · rename_i h5
        rcases h4 with h4 | h4
        · exact absurd h4 h5
        · omega
  · by_cases e : x = nm
    · subst e; rw [atKey_put_same hmap hkey, if_pos rfl]
    · rw [atKey_put_other (lit_str_ne e), if_neg e]; exact h.at' x
  · by_cases e : x = nm
    · subst e; rw [has_put_same hmap hkey, if_pos rfl]; rfl
    · rw [has_put_other (lit_str_ne e), if_neg e]; exact h.has x
  · by_cases e : x = nm
    · subst e
      rw [put_fs_same] at hfx
      cases hfx
      rw [if_pos rfl] at hgx ⊢
      cases hgx
      exact hF
    · rw [put_fs_other M nm x f' e] at hfx
      rw [if_neg e] at hgx ⊢
      exact hother x gx fx e hgx hfx
  · by_cases ea : a = nm <;> by_cases eb : b = nm
    · rw [ea, eb]
    · rw [if_pos ea] at ha; rw [if_neg eb] at hb
      cases ha
      rcases c.or with ⟨h1, -, -⟩ | ⟨h2, -, -⟩
      · rw [ea]; exact (h.inj _ _ _ hb h1).symm
      · exact absurd hb (h2 b)
    · rw [if_neg ea] at ha; rw [if_pos eb] at hb
      cases hb
      rcases c.or with ⟨h1, -, -⟩ | ⟨h2, -, -⟩
      · rw [eb]; exact h.inj _ _ _ ha h1
      · exact absurd ha (h2 a)
    · rw [if_neg ea] at ha; rw [if_neg eb] at hb
      exact h.inj _ _ _ ha hb
  · have key : ∀ x k, x ≠ nm → ((if x = nm then some g else gs x) : Option Nat).isSome = true → (if x = nm then v' else rv x).ownBlock = some k → v'.ownBlock = some k → False := fun x k e hx hr hv' => by
      rw [if_neg e] at hx hr
      obtain ⟨gx, hgx⟩ := Option.isSome_iff_exists.1 hx
      obtain ⟨fx, -, hFx⟩ := h.ex hgx
      rcases hv k hv' with h1 | h1
      · rcases c.or with ⟨h2, h3, -⟩ | ⟨-, h3, -⟩
        · exact e (h.rows x nm k hx (by rw [h2]; rfl) hr (by rw [h3]; exact h1))
        · exact h3 x k hx hr h1
      · have := hFx.own.ltk hr; omega
    by_cases ea : a = nm <;> by_cases eb : b = nm
    · rw [ea, eb]
    · exact (key b k eb hb hrb (by rw [if_pos ea] at hra; exact hra)).elim
    · exact (key a k ea ha hra (by rw [if_pos eb] at hrb; exact hrb)).elim
    · simp only [if_neg ea] at ha hra; simp only [if_neg eb] at hb hrb
      exact h.rows a b k ha hb hra hrb
  · by_cases e : x = nm
    · rw [e]; exact c.good
    · rw [if_neg e] at hx; exact h.nms x hx
theorem del_fs_same (M : DiskM) (nm : List UInt8) : (M.del nm).fs nm = none := by simp [DiskM.del]
theorem del_fs_other (M : DiskM) (nm x : List UInt8) (h : x ≠ nm) : (M.del nm).fs x = M.fs x := by simp [DiskM.del, h]
/-- A file is taken away. -/
theorem DiskAt.delFile (h : DiskAt w Ft d m gs rv D M) {w' : World} {nm : List UInt8} {g : Nat} (hg : gs nm = some g) (hm : w'.ownsMap Tryz.prog 9 fileR m M.cnt (D.del (.string nm))) (hk : ∀ b, b ≠ m → w'.heap[b]? = w.heap[b]?) :
    DiskAt w' Ft d m (fun x => if x = nm then none else gs x) rv (D.del (.string nm)) (M.del nm) := by
  have htidy : Tidy D := h.map.tidy fkeyed
  have hs : (M.fs nm).isSome = true := by rw [← h.ok, hg]; rfl
  have hcnt : (M.del nm).cnt = M.cnt - 1 := by simp [DiskM.del, hs]
  have hsz : Maps.size (D.del (.string nm)) = (M.del nm).cnt := by
    have := size_del (k := .string nm) htidy
    rw [h.has, hg, h.cnt] at this
    rw [hcnt]
    simp at this
    omega
  have hsome : ∀ x, ((if x = nm then none else gs x) : Option Nat).isSome = true → x ≠ nm ∧ (gs x).isSome = true := fun x hx => by
    by_cases e : x = nm
    · rw [if_pos e] at hx; cases hx
    · rw [if_neg e] at hx; exact ⟨e, hx⟩
  have hdm : d ≠ m := fun e => by have h1 := h.tagd; rw [e, h.tagm] at h1; cases h1
  refine ⟨(hk d hdm).trans h.disk, hsz ▸ ownsMap_exact hm, hsz, by rw [hcnt]; have := h.c256; omega, fun x => ?_, fun x => ?_, fun x => ?_, fun x gx fx hgx hfx => ?_, fun a b k ha hb => ?_, fun a b k ha hb hra hrb => h.rows a b k (hsome a ha).2 (hsome b hb).2 hra hrb, fun x hx => h.nms x (hsome x hx).2, h.fd, h.fm, h.rng⟩
  · by_cases e : x = nm
    · subst e; rw [atKey_del_same, if_pos rfl]
    · rw [atKey_del_other (lit_str_ne e), if_neg e]; exact h.at' x
  · by_cases e : x = nm
    · subst e; rw [has_del_same, if_pos rfl]; rfl
    · rw [has_del_other (lit_str_ne e), if_neg e]; exact h.has x
  · by_cases e : x = nm
    · subst e; rw [del_fs_same, if_pos rfl]; rfl
    · rw [del_fs_other M nm x e, if_neg e]; exact h.ok x
  · by_cases e : x = nm
    · rw [if_pos e] at hgx; cases hgx
    · rw [if_neg e] at hgx
      rw [del_fs_other M nm x e] at hfx
      have hF := h.file x gx fx hgx hfx
      refine hF.keep (fun b hb => hk b fun e2 => ?_) fun _ y => y
      rcases hb with rfl | hb
      · have h1 := hF.tagg; rw [e2, h.tagm] at h1; cases h1
      · have h1 := hF.own.tag hb; rw [e2, h.tagm] at h1; cases h1
  · by_cases ea : a = nm
    · rw [if_pos ea] at ha; cases ha
    · by_cases eb : b = nm
      · rw [if_pos eb] at hb; cases hb
      · rw [if_neg ea] at ha; rw [if_neg eb] at hb; exact h.inj _ _ _ ha hb
end
end Go.Proofs.YtflkaladkbkbgaaGreat

/- The power; a change that is done, or at which the power goes; a disk's file by its name; a new disk. -/
namespace Go.Proofs.YtflkaladkbkbgaaGreat
set_option linter.unusedVariables false
set_option linter.unusedSimpArgs false
open Go.RowKit Go.Maps
set_option maxRecDepth 100000

def EntersF (f : Nat) : Prop := ∀ (args : Array Value) (W : World), (callFunc f args).run Tryz.prog W = .ok (.enter f args) W
section
variable {w : World} {Ft : Nat → Prop} {d m : Nat} {gs : List UInt8 → Option Nat} {rv : List UInt8 → Value} {D : DataW Unit} {M : DiskM}
theorem setCell_grown (w : World) (d i : Nat) (v : Value) : w.grownBy (w.setCell ⟨d, i, none⟩ v) (some d) := ⟨rfl, rfl, rfl, by simp, fun k _ hk => heap_setCell_other _ ⟨d, i, none⟩ k _ (fun e => hk (by rw [e]))⟩
theorem setCell_one {w : World} {d : Nat} {cs : Array Value} {t : TypeId} {fr : Nat × Nat} (h : w.heap[d]? = some (.cells cs t fr)) (i : Nat) (v : Value) : (w.setCell ⟨d, i, none⟩ v).heap[d]? = some (.cells (cs.setIfInBounds i v) t fr) := Go.Joins.block_setCell h v
theorem DiskAt.r1 (h : DiskAt w Ft d m gs rv D M) : M.left ≤ 9223372036854775807 := h.rng.2.1
theorem DiskAt.off (h : DiskAt w Ft d m gs rv D M) : DiskAt (w.setCell ⟨d, 3, none⟩ (.bool true)) Ft d m gs rv D M.off :=
  h.power M.off rfl rfl h.rng (setCell_one h.disk 3 _) fun b hb => heap_setCell_other _ ⟨d, 3, none⟩ b _ hb
theorem DiskAt.less (h : DiskAt w Ft d m gs rv D M) (hl : 0 < M.left) : DiskAt (w.setCell ⟨d, 1, none⟩ (.int .i64 (M.left - 1))) Ft d m gs rv D M.spent := by
  have e : M.spent.left = M.left - 1 := by unfold DiskM.spent; simp [hl]
  refine h.power M.spent rfl rfl ⟨by rw [e]; omega, by rw [e]; have := h.r1; omega, h.rng.2.2⟩ ?_ fun b hb => heap_setCell_other _ ⟨d, 1, none⟩ b _ hb
  rw [e]
  exact setCell_one h.disk 1 _
theorem DiskAt.same (h : DiskAt w Ft d m gs rv D M) (hl : M.left < 0) : DiskAt w Ft d m gs rv D M.spent := by
  have e : M.spent = M := by unfold DiskM.spent; rw [if_neg (by omega)]
  rw [e]; exact h
/-- What is asked of the power. -/
def LastsR (w : World) (Ft : Nat → Prop) (d m : Nat) (gs : List UInt8 → Option Nat) (rv : List UInt8 → Value) (D : DataW Unit) (M : DiskM) (e : Ending) (w' : World) : Prop :=
  e = .returned (.bool (decide (M.left ≠ 0))) ∧ DiskAt w' Ft d m gs rv D (if M.left = 0 then M.off else M.spent) ∧ w.grownBy w' (some d) ∧ w'.heap.size = w.heap.size
set_option maxHeartbeats 2000000 in
theorem lasts_any (h : DiskAt w Ft d m gs rv D M) (hg : M.gone = false) : Calls Tryz.prog 83 #[.pointer (some ⟨d, 1, none⟩)] w (LastsR w Ft d m gs rv D M) := by
  have H := Lib.hid h
  have h1 := h.c1
  have h3 := h.c3
  have f1 := h.uf 1
  have f3 := h.uf 3
  have hr := h.rng.2.1
  have hblk := Lib.hid h.disk
  rw [hg] at h3
  clear h
  obtain ⟨L, hL⟩ : ∃ L, L = M.left := ⟨_, rfl⟩
  have HL := Lib.hid hL
  rw [← hL] at h1 hr
  clear hL
  by_cases hz : L = 0
  · subst hz
    have ho := H.out.off
    have o3 := ho.c3
    have HO := Lib.hid ho
    clear ho
    have e3 : (w.setCell ⟨d, 3, none⟩ (.bool true)).cell? ⟨d, 3, none⟩ = some (.bool true) := o3
    go_enter Tryz.func83, Tryz.ntmps83
    go_wp2_with fail
    go_ret
    refine ⟨by rw [← HL.out]; rfl, by rw [if_pos HL.out.symm]; exact HO.out, setCell_grown _ _ _ _, by simp⟩
  · by_cases hp : 0 < L
    · have d1 : (L == 0) = false := by simp; omega
      have d2 : decide (0 < L) = true := decide_eq_true hp
      have ho := H.out.less (by rw [← HL.out]; exact hp)
      have o3 := ho.c3
      rw [← HL.out] at ho
      have e3 : (w.setCell ⟨d, 1, none⟩ (.int .i64 (L - 1))).cell? ⟨d, 3, none⟩ = some (.bool false) := by have := ho.c3; rw [this]; show some (Value.bool M.gone) = _; rw [hg]
      have HO := Lib.hid ho
      have hw : wrap64 (L - 1) = L - 1 := by unfold wrap64; omega
      clear ho o3
      go_enter Tryz.func83, Tryz.ntmps83
      go_wp2_with fail
      go_ret
      refine ⟨by rw [← HL.out, decide_eq_true (show L ≠ 0 by omega)]; rfl, by rw [if_neg (by rw [← HL.out]; exact hz)]; exact HO.out, setCell_grown _ _ _ _, by simp⟩
    · have d1 : (L == 0) = false := by simp; omega
      have d2 : decide (0 < L) = false := decide_eq_false hp
      have ho := H.out.same (by rw [← HL.out]; omega)
      have HO := Lib.hid ho
      clear ho
      go_enter Tryz.func83, Tryz.ntmps83
      go_wp2_with fail
      go_ret
      refine ⟨by rw [← HL.out, decide_eq_true (show L ≠ 0 by omega)]; rfl, by rw [if_neg (by rw [← HL.out]; exact hz)]; exact HO.out, ⟨rfl, rfl, rfl, Nat.le_refl _, fun _ _ _ => rfl⟩, rfl⟩
end
end Go.Proofs.YtflkaladkbkbgaaGreat
