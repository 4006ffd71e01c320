/- What a disk is made of lies apart; what comes of it where one file, or the power, is changed. -/
import Derived.Test.YtclgekmpldeedaaFlC
namespace Go.Proofs.Ytclgekmpldeedaa
set_option linter.unusedVariables false
set_option linter.unusedSimpArgs false
open Go.RowKit Go.Maps
set_option maxRecDepth 100000

/-- The type of a block's elements. -/
def tagOf (w : World) (b : Nat) : Option TypeId := match w.heap[b]? with | some (.cells _ t _) => some t | _ => none
theorem tag_of {w : World} {b : Nat} {cs : Array Value} {t : TypeId} {fr : Nat × Nat} (h : w.heap[b]? = some (.cells cs t fr)) : tagOf w b = some t := by unfold tagOf; rw [h]
theorem OwnB.tag {w : World} {B : Nat} {v : Value} {l : List UInt8} (h : OwnB w B v l) {k : Nat} (hk : v.ownBlock = some k) : tagOf w k = some 5 := by
  rcases h.2 with ⟨rfl, -⟩ | ⟨g, cap, cur, rfl, -, hh, -⟩
  · cases hk
  · cases hk; exact tag_of hh
theorem OwnB.ltk {w : World} {B : Nat} {v : Value} {l : List UInt8} (h : OwnB w B v l) {k : Nat} (hk : v.ownBlock = some k) : k < w.heap.size := (World.ownsRow.lt h k hk).2
theorem FileAt.tagg {w : World} {Ft : Nat → Prop} {g : Nat} {v : Value} {f : FileM} (h : FileAt w Ft g v f) : tagOf w g = some 56 := tag_of h.blk
theorem FileAt.lt {w : World} {Ft : Nat → Prop} {g : Nat} {v : Value} {f : FileM} (h : FileAt w Ft g v f) : g < w.heap.size := (Array.getElem?_eq_some_iff.1 h.blk).1
theorem FileAt.c0 {w : World} {Ft : Nat → Prop} {g : Nat} {v : Value} {f : FileM} (h : FileAt w Ft g v f) : w.cell? ⟨g, 0, none⟩ = some v := by simp [World.cell?, h.blk]
theorem FileAt.c1 {w : World} {Ft : Nat → Prop} {g : Nat} {v : Value} {f : FileM} (h : FileAt w Ft g v f) : w.cell? ⟨g, 1, none⟩ = some (.int .i64 (f.sure : Int)) := by simp [World.cell?, h.blk]
theorem FileAt.uf {w : World} {Ft : Nat → Prop} {g : Nat} {v : Value} {f : FileM} (h : FileAt w Ft g v f) (i : Nat) : w.frozen? ⟨g, i, none⟩ = false := Go.Joins.unfrozen_of_block h.blk i
theorem FileAt.ft {w : World} {Ft Ft' : Nat → Prop} {g : Nat} {v : Value} {f : FileM} (h : FileAt w Ft g v f) (hF : ∀ b, Ft b → Ft' b) : FileAt w Ft' g v f := h.keep (fun _ _ => rfl) hF

section
variable {w : World} {Ft : Nat → Prop} {d m : Nat} {gs : List UInt8 → Option Nat} {rv : List UInt8 → Value} {D : DataW Unit} {M : DiskM}
theorem DiskAt.tagd (h : DiskAt w Ft d m gs rv D M) : tagOf w d = some 50 := tag_of h.disk
theorem DiskAt.tagm (h : DiskAt w Ft d m gs rv D M) : tagOf w m = none := by
  obtain ⟨es, clock, hb, -⟩ := h.map
  unfold tagOf; rw [hb]
theorem DiskAt.mono (h : DiskAt w Ft d m gs rv D M) {Ft' : Nat → Prop} (hF : ∀ b, Ft b → Ft' b) : DiskAt w Ft' d m gs rv D M :=
  ⟨h.disk, h.map, h.cnt, h.c256, h.at', h.has, h.ok, fun nm g f hg hf => (h.file nm g f hg hf).ft hF, h.inj, h.rows, h.nms, hF _ h.fd, hF _ h.fm, h.rng⟩
theorem DiskAt.ex (h : DiskAt w Ft d m gs rv D M) {nm : List UInt8} {g : Nat} (hg : gs nm = some g) : ∃ f, M.fs nm = some f ∧ FileAt w Ft g (rv nm) f := by
  have := h.ok nm
  rw [hg] at this
  cases hf : M.fs nm with
  | none => rw [hf] at this; cases this
  | some f => exact ⟨f, rfl, h.file nm g f hg hf⟩
/-- Only the power is another one. -/
theorem DiskAt.power (h : DiskAt w Ft d m gs rv D M) {w' : World} (M' : DiskM) (hfs : M'.fs = M.fs) (hc : M'.cnt = M.cnt) (hr : -1 ≤ M'.left ∧ M'.left ≤ 9223372036854775807 ∧ 0 ≤ M'.torn ∧ M'.torn ≤ 9223372036854775807)
    (hd : w'.heap[d]? = some (.cells #[.map (some m), .int .i64 M'.left, .int .i64 M'.torn, .bool M'.gone] 50 (0, 0))) (hk : ∀ b, b ≠ d → w'.heap[b]? = w.heap[b]?) : DiskAt w' Ft d m gs rv D M' := by
  have htd := h.tagd
  have hmd : m ≠ d := fun e => by have := h.tagm; rw [e, htd] at this; cases this
  refine ⟨hd, by rw [hc]; exact ownsMap_keep h.map (hk m hmd), by rw [hc]; exact h.cnt, by rw [hc]; exact h.c256, h.at', h.has, by rw [hfs]; exact h.ok, fun nm g f hg hf => ?_, h.inj, h.rows, h.nms, h.fd, h.fm, hr⟩
  · rw [hfs] at hf
    have hF := h.file nm g f hg hf
    refine hF.keep (fun b hb => hk b fun e => ?_) fun _ x => x
    rcases hb with rfl | hb
    · have := hF.tagg; rw [e, htd] at this; exact absurd this (by decide)
    · have := hF.own.tag hb; rw [e, htd] at this; exact absurd this (by decide)
theorem put_fs_same (M : DiskM) (nm : List UInt8) (f : FileM) : (M.put nm f).fs nm = some f := by simp [DiskM.put]
theorem put_fs_other (M : DiskM) (nm x : List UInt8) (f : FileM) (h : x ≠ nm) : (M.put nm f).fs x = M.fs x := by simp [DiskM.put, h]
theorem put_cnt_there (M : DiskM) (nm : List UInt8) (f : FileM) (h : (M.fs nm).isSome = true) : (M.put nm f).cnt = M.cnt := by simp [DiskM.put, h]
/-- A file that is there is another one; its row is in the old one's place, or new. -/
theorem DiskAt.setFile (h : DiskAt w Ft d m gs rv D M) {w' : World} {nm : List UInt8} {g : Nat} (hg : gs nm = some g) {v' : Value} {f' : FileM} (hF : FileAt w' Ft g v' f')
    (hv : ∀ k, v'.ownBlock = some k → (rv nm).ownBlock = some k) (hk : ∀ b, b ≠ g → some b ≠ (rv nm).ownBlock → w'.heap[b]? = w.heap[b]?) :
    DiskAt w' Ft d m gs (fun x => if x = nm then v' else rv x) D (M.put nm f') := by
  obtain ⟨f, hf, hF0⟩ := h.ex hg
  have hs : (M.fs nm).isSome = true := by rw [hf]; rfl
  have hapart : ∀ b, tagOf w b ≠ some 56 → tagOf w b ≠ some 5 → w'.heap[b]? = w.heap[b]? := fun b h1 h2 =>
    hk b (fun e => h1 (by rw [e]; exact hF0.tagg)) (fun e => h2 (hF0.own.tag e.symm))
  refine ⟨(hapart d (by rw [h.tagd]; decide) (by rw [h.tagd]; decide)).trans h.disk, ?_, ?_, ?_, h.at', h.has, fun x => ?_, fun x gx fx hgx hfx => ?_, h.inj, fun a b k ha hb hra hrb => ?_, h.nms, h.fd, h.fm, h.rng⟩
  · rw [put_cnt_there M nm f' hs]
    exact ownsMap_keep h.map (hapart m (by rw [h.tagm]; simp) (by rw [h.tagm]; simp))
  · rw [put_cnt_there M nm f' hs]; exact h.cnt
  · rw [put_cnt_there M nm f' hs]; exact h.c256
  · by_cases e : x = nm
    · subst e; rw [put_fs_same, hg]; rfl
    · rw [put_fs_other M nm x f' e]; exact h.ok x
  · by_cases e : x = nm
    · subst e
      rw [put_fs_same] at hfx
      cases hfx
      rw [hg] at hgx
      cases hgx
      rw [if_pos rfl]
      exact hF
    · rw [put_fs_other M nm x f' e] at hfx
      rw [if_neg e]
      have hFx := h.file x gx fx hgx hfx
      refine hFx.keep (fun b hb => hk b (fun e2 => ?_) (fun e2 => ?_)) fun _ x => x
      · rcases hb with rfl | hb
        · subst e2; exact e (h.inj _ _ _ hgx hg)
        · have h1 := hFx.own.tag hb; rw [e2, hF0.tagg] at h1; exact absurd h1 (by decide)
      · rcases hb with rfl | hb
        · have h1 := hF0.own.tag e2.symm; rw [hFx.tagg] at h1; exact absurd h1 (by decide)
        · exact e (h.rows x nm b (by rw [hgx]; rfl) (by rw [hg]; rfl) hb e2.symm)
  · by_cases ea : a = nm <;> by_cases eb : b = nm
    · rw [ea, eb]
    · rw [if_pos ea] at hra; rw [if_neg eb] at hrb
      rw [ea]; exact h.rows nm b k (by rw [hg]; rfl) hb (hv k hra) hrb
    · rw [if_neg ea] at hra; rw [if_pos eb] at hrb
      rw [eb]; exact h.rows a nm k ha (by rw [hg]; rfl) hra (hv k hrb)
    · rw [if_neg ea] at hra; rw [if_neg eb] at hrb
      exact h.rows a b k ha hb hra hrb
/-- A file is laid at a name: one that was there, longer, or one that is new. -/
structure Cand (w : World) (Ft : Nat → Prop) (d m : Nat) (gs : List UInt8 → Option Nat) (rv : List UInt8 → Value) (D : DataW Unit) (M : DiskM) (nm : List UInt8) (g : Nat) (v : Value) (f : FileM) : Prop where
  disk : DiskAt w Ft d m gs rv D M
  file : FileAt w Ft g v f
  good : badNm nm = false
  or : (gs nm = some g ∧ rv nm = v ∧ M.fs nm = some f) ∨ (gs nm = none ∧ (∀ a, gs a ≠ some g) ∧ v = .slice none 0 0 ∧ M.cnt < 256 ∧ f = ⟨[], 0⟩)
theorem lit_str_ne {a b : List UInt8} (h : a ≠ b) : (Lit.string a) ≠ (Lit.string b) := fun e => h (by injection e)
theorem DiskAt.putFile {nm : List UInt8} {g : Nat} {v : Value} {f : FileM} (c : Cand w Ft d m gs rv D M nm g v f) {w' : World} {Ft' : Nat → Prop} {v' : Value} {f' : FileM} (hft : ∀ b, Ft b → Ft' b)
    (hm : w'.ownsMap Try.prog 9 fileR m (M.cnt + 1) (D.put (.string nm) (.lit (.int .i64 (g : Int))))) (hF : FileAt w' Ft' g v' f') (hv : ∀ k, v'.ownBlock = some k → v.ownBlock = some k ∨ w.heap.size ≤ k)
    (hk : ∀ b, b < w.heap.size → b ≠ g → b ≠ m → some b ≠ v.ownBlock → w'.heap[b]? = w.heap[b]?) :
    DiskAt w' Ft' d m (fun x => if x = nm then some g else gs x) (fun x => if x = nm then v' else rv x) (D.put (.string nm) (.lit (.int .i64 (g : Int)))) (M.put nm f') := by
  have h := c.disk
  have hkey : WideAt.IsKeyLit (Lit.string nm) := trivial
  obtain ⟨es, hD, -, -⟩ := h.map.entries fkeyed
  have hmap : IsMap D := ⟨es, hD⟩
  have htidy : Tidy D := h.map.tidy fkeyed
  have hsome : ∀ x, ((if x = nm then some g else gs x) : Option Nat).isSome = ((M.put nm f').fs x).isSome := fun x => by
    by_cases e : x = nm
    · subst e; rw [put_fs_same, if_pos rfl]; rfl
    · rw [put_fs_other M nm x f' e, if_neg e]; exact h.ok x
  have hcnt : (M.put nm f').cnt = if (gs nm).isSome then M.cnt else M.cnt + 1 := by rw [h.ok nm]; rfl
  have hsz : Maps.size (D.put (.string nm) (.lit (.int .i64 (g : Int)))) = (M.put nm f').cnt := by
    rw [size_put htidy, h.has, hcnt, h.cnt]
  have hvm : ∀ k, v.ownBlock = some k → k ≠ d := fun k hk e => by have := c.file.own.tag hk; rw [e, h.tagd] at this; exact absurd this (by decide)
  have hother : ∀ x gx fx, x ≠ nm → gs x = some gx → M.fs x = some fx → FileAt w' Ft' gx (rv x) fx := fun x gx fx e hgx hfx => by
    have hFx := h.file x gx fx hgx hfx
    have hgne : gx ≠ g := fun e2 => by
      rcases c.or with ⟨h1, -, -⟩ | ⟨-, h2, -⟩
      · exact e (h.inj _ _ _ hgx (by rw [h1, e2]))
      · exact h2 x (by rw [hgx, e2])
    refine hFx.keep (fun b hb => ?_) hft
    rcases hb with rfl | hb
    · refine hk _ hFx.lt hgne (fun e2 => ?_) (fun e2 => ?_)
      · have := hFx.tagg; rw [e2, h.tagm] at this; cases this
      · have := c.file.own.tag e2.symm; rw [hFx.tagg] at this; exact absurd this (by decide)
    · have ht := hFx.own.tag hb
      refine hk b (hFx.own.ltk hb) (fun e2 => ?_) (fun e2 => ?_) (fun e2 => ?_)
      · rw [e2, c.file.tagg] at ht; exact absurd ht (by decide)
      · rw [e2, h.tagm] at ht; cases ht
      · rcases c.or with ⟨h1, h3, -⟩ | ⟨-, -, h3, -⟩
        · exact e (h.rows x nm b (by rw [hgx]; rfl) (by rw [h1]; rfl) hb (by rw [h3]; exact e2.symm))
        · rw [h3] at e2; cases e2
  refine ⟨(hk d h.lt (fun e => ?_) (fun e => ?_) (fun e => hvm d e.symm rfl)).trans h.disk, hsz ▸ ownsMap_exact hm, hsz, ?_, fun x => ?_, fun x => ?_, hsome, fun x gx fx hgx hfx => ?_, fun a b k ha hb => ?_, fun a b k ha hb hra hrb => ?_, fun x hx => ?_, hft _ h.fd, hft _ h.fm, h.rng⟩
  · have := h.tagd; rw [e, c.file.tagg] at this; exact absurd this (by decide)
  · have := h.tagd; rw [e, h.tagm] at this; cases this
  · rw [hcnt]
    rcases c.or with ⟨h1, -, -⟩ | ⟨h1, -, -, h4, -⟩
    · rw [h1]; exact h.c256
    · rw [h1]; simp only [Option.isSome_none, Bool.false_eq_true, if_false]; omega
  · by_cases e : x = nm
    · subst e; rw [atKey_put_same hmap hkey, if_pos rfl]
    · rw [atKey_put_other (lit_str_ne e), if_neg e]; exact h.at' x
  · by_cases e : x = nm
    · subst e; rw [has_put_same hmap hkey, if_pos rfl]; rfl
    · rw [has_put_other (lit_str_ne e), if_neg e]; exact h.has x
  · by_cases e : x = nm
    · subst e
      rw [put_fs_same] at hfx
      cases hfx
      rw [if_pos rfl] at hgx ⊢
      cases hgx
      exact hF
    · rw [put_fs_other M nm x f' e] at hfx
      rw [if_neg e] at hgx ⊢
      exact hother x gx fx e hgx hfx
  · by_cases ea : a = nm <;> by_cases eb : b = nm
    · rw [ea, eb]
    · rw [if_pos ea] at ha; rw [if_neg eb] at hb
      cases ha
      rcases c.or with ⟨h1, -, -⟩ | ⟨-, h2, -⟩
      · rw [ea]; exact (h.inj _ _ _ hb h1).symm
      · exact absurd hb (h2 b)
    · rw [if_neg ea] at ha; rw [if_pos eb] at hb
      cases hb
      rcases c.or with ⟨h1, -, -⟩ | ⟨-, h2, -⟩
      · rw [eb]; exact h.inj _ _ _ ha h1
      · exact absurd ha (h2 a)
    · rw [if_neg ea] at ha; rw [if_neg eb] at hb
      exact h.inj _ _ _ ha hb
  · have key : ∀ x k, x ≠ nm → ((if x = nm then some g else gs x) : Option Nat).isSome = true → (if x = nm then v' else rv x).ownBlock = some k → v'.ownBlock = some k → False := fun x k e hx hr hv' => by
      rw [if_neg e] at hx hr
      obtain ⟨gx, hgx⟩ := Option.isSome_iff_exists.1 hx
      obtain ⟨fx, -, hFx⟩ := h.ex hgx
      rcases hv k hv' with h1 | h1
      · rcases c.or with ⟨h2, h3, -⟩ | ⟨-, -, h3, -⟩
        · exact e (h.rows x nm k hx (by rw [h2]; rfl) hr (by rw [h3]; exact h1))
        · rw [h3] at h1; cases h1
      · have := hFx.own.ltk hr; omega
    by_cases ea : a = nm <;> by_cases eb : b = nm
    · rw [ea, eb]
    · exact (key b k eb hb hrb (by rw [if_pos ea] at hra; exact hra)).elim
    · exact (key a k ea ha hra (by rw [if_pos eb] at hrb; exact hrb)).elim
    · simp only [if_neg ea] at ha hra; simp only [if_neg eb] at hb hrb
      exact h.rows a b k ha hb hra hrb
  · by_cases e : x = nm
    · rw [e]; exact c.good
    · rw [if_neg e] at hx; exact h.nms x hx
end
end Go.Proofs.Ytclgekmpldeedaa
