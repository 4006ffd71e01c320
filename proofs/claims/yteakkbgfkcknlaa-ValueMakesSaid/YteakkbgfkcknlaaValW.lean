/- A walk through a value, from above, that shows each to a function. -/
import Derived.Test.YteakkbgfkcknlaaValF
import Derived.Test.YteakkbgfkcknlaaVarG
namespace Go.Proofs.Yteakkbgfkcknlaa
open Go.RowKit

theorem depthL_le {x : VT} : ∀ {l : List VT}, x ∈ l → depthT x ≤ depthL l
  | [], h => by cases h
  | t :: r, h => by
    unfold depthL
    rcases List.mem_cons.1 h with rfl | h
    · omega
    · have := depthL_le h; omega
theorem depthT_mk (k i : Int) (s : ByteArray) (l : List VT) (ns : List ByteArray) : depthT (.mk k i s l ns) = depthL l + 1 := by unfold depthT; rfl
theorem walkT_stop {σ : Type} {f : VT → Nat → σ → σ × Bool} {t : VT} {d : Nat} {st : σ} (h : (f t d st).2 = false) : walkT f t d st = ((f t d st).1, false) := by
  cases t; unfold walkT; rw [if_neg (by rw [h]; exact Bool.false_ne_true)]
theorem walkT_go {σ : Type} {f : VT → Nat → σ → σ × Bool} {t : VT} {d : Nat} {st : σ} (h : (f t d st).2 = true) : walkT f t d st = walkL f t.items (d + 1) (f t d st).1 := by
  cases t; unfold walkT; rw [if_pos h]; rfl
theorem walkL_stop {σ : Type} {f : VT → Nat → σ → σ × Bool} {t : VT} {r : List VT} {d : Nat} {st : σ} (h : (walkT f t d st).2 = false) : walkL f (t :: r) d st = ((walkT f t d st).1, false) := by
  unfold walkL; rw [if_neg (by rw [h]; exact Bool.false_ne_true)]
theorem walkL_go {σ : Type} {f : VT → Nat → σ → σ × Bool} {t : VT} {r : List VT} {d : Nat} {st : σ} (h : (walkT f t d st).2 = true) : walkL f (t :: r) d st = walkL f r d (walkT f t d st).1 := by
  conv => lhs; unfold walkL
  rw [if_pos h]
theorem walkL_nil {σ : Type} {f : VT → Nat → σ → σ × Bool} {d : Nat} {st : σ} : walkL f [] d st = (st, true) := by unfold walkL; rfl

/-- What the function that is shown each does: with a state that lies in block g alone. -/
def Shows {σ : Type} (k : Nat) (caps : Array Value) (S : Nat → Prop) (g : Nat) (Inv : World → σ → Prop) (f : VT → Nat → σ → σ × Bool) (top : Nat) : Prop :=
  ∀ (x : VT) (v : Value) (W : World) (lvl : Nat) (st : σ), g < W.heap.size → LV W S x v → lvl ≤ top → Inv W st →
    Calls Try.prog k (#[v, .int .i64 lvl] ++ caps) W fun e w' => e = .returned (.bool (f x lvl st).2) ∧ Inv w' (f x lvl st).1 ∧ Only W w' g

theorem Only.blk {w w' : World} {g b : Nat} (h : Only w w' g) (hb : b < w.heap.size) (hne : b ≠ g) : w'.heap[b]? = w.heap[b]? := h.block b hb (by rintro ⟨⟩; exact hne rfl)

set_option maxHeartbeats 2000000 in
set_option maxRecDepth 100000 in
theorem walk_any {σ : Type} (k : Nat) (caps : Array Value) (S : Nat → Prop) (g : Nat) (Inv : World → σ → Prop) (f : VT → Nat → σ → σ × Bool) (top : Nat) (hcf0 : Enters k) (hSg : ∀ b, S b → b < g) (htop : top ≤ 4611686018427387904)
    (hInv : ∀ W W' st, W'.heap[g]? = W.heap[g]? → Inv W st → Inv W' st) (hsee : Shows k caps S g Inv f top) :
    ∀ (n : Nat) (t : VT) (v : Value) (w : World) (lvl : Nat) (st : σ), depthT t ≤ n → LV w S t v → g < w.heap.size → lvl + depthT t ≤ top → Inv w st →
      Calls Try.prog 71 #[v, .int .i64 lvl, .func (.func k) #[] caps] w fun e w' => e = .returned (.bool (walkT f t lvl st).2) ∧ Inv w' (walkT f t lvl st).1 ∧ Only w w' g := by
  intro n
  induction n with
  | zero => intro t v w lvl st hd; cases t; rw [depthT_mk] at hd; omega
  | succ n ih =>
    intro t v w lvl st hd hv hg hlv hst
    have hcf : ∀ (args : Array Value) (W : World), (callFunc k args).run Try.prog W = .ok (.enter k args) W := hcf0
    have HV := Lib.hid hv
    obtain ⟨A, c, A', c', rfl, -, -, -, hll, -, -, hit⟩ := hv.shape
    have HIT := Lib.hid hit
    have HLL := Lib.hid hll
    have hlv2 : lvl ≤ 4611686018427387904 := by omega
    obtain ⟨o, ho⟩ : ∃ o : Obj, o = .cells #[.int .i64 t.kind, .int .i64 t.num, .string t.text, .slice A t.items.length c, .slice A' t.names.length c'] 49 := ⟨_, rfl⟩
    have hI1 : Inv (w.alloc o) st := hInv _ _ _ (Below.heap_alloc w o g hg) hst
    have hV1 : LV (w.alloc o) S t _ := HV.out.alloc (fun b h => Nat.lt_trans (hSg b h) hg) o
    have SEE := Lib.hid (hsee t _ (w.alloc o) lvl st (by simp; omega) hV1 (by omega) hI1)
    have HO := Lib.hid ho
    clear hv hit hll hst hI1 hV1 hsee hcf0
    subst ho
    generalize hR : walkT f t lvl st = R
    have HR := Lib.hid hR
    clear hR
    go_enter Try.func71, Try.ntmps71
    go_wp2_with fail
    refine SEE.out.mono ?_
    rintro e w1 ⟨rfl, hinv1, honly1⟩
    have honly : Only w w1 g := ((Only.refl w g).alloc _).trans honly1
    by_cases hf : (f t lvl st).2 = true
    · have hbx : w1.cell? ⟨w.heap.size, 3, none⟩ = some (.slice A t.items.length c) := by
        rw [World.cell?_of_block (a := ⟨w.heap.size, 3, none⟩) (honly1.blk (b := w.heap.size) (by simp) (by omega))]
        simp
      have HIN := Lib.hid hinv1
      have HON := Lib.hid honly
      have hsz := honly.size
      have HR1 : Hid (walkL f t.items (lvl + 1) (f t lvl st).1 = R) := by rw [← walkT_go hf]; exact HR
      clear HR
      clear hinv1 honly1 honly SEE HO HV hlv2
      go_wp2_with fail
      clear hf
      generalize (f t lvl st).1 = st1 at *
      go_loopw [17] (fun i wr => ∃ (j : Nat) (sj : σ), i = .int .i64 j ∧ j ≤ t.items.length ∧ Hid (walkL f (t.items.drop j) (lvl + 1) sj = R ∧ Inv wr sj ∧ Only w wr g)) (fun i _ => t.items.length - (intOf i).toNat)
      case atStart => exact ⟨0, st1, rfl, Nat.zero_le _, HR1.out, HIN.out, HON.out⟩
      case round =>
        obtain ⟨j, sj, rfl, hj, HI⟩ := hrel
        have hlb := HLL.out
        by_cases hlt : j < t.items.length
        · obtain ⟨b, off, rfl, hb, hl⟩ := HIT.out (by omega)
          obtain ⟨c0, c1, c2, c3, c4, h0, h1, h2, h3, h4, hx⟩ := hl.at j hlt
          obtain ⟨A2, e2, A3, e3, hag, -⟩ := hx.shape
          injection hag with hag
          injection hag with hag
          injection hag with g0 hag; injection hag with g1 hag; injection hag with g2 hag; injection hag with g3 hag; injection hag with g4 hag
          subst g0 g1 g2 g3 g4
          have hbg := hSg b hb
          have hk := HI.out.2.2.blk (b := b) (by omega) (by omega)
          have hw : ∀ o, wr.cell? ⟨b, o, none⟩ = w.cell? ⟨b, o, none⟩ := fun o => World.cell?_of_block (a := ⟨b, o, none⟩) hk
          rw [← hw] at h0 h1 h2 h3 h4
          have hx1 : LV wr S t.items[j] (.agg #[.int .i64 t.items[j].kind, .int .i64 t.items[j].num, .string t.items[j].text, .slice A2 t.items[j].items.length e2, .slice A3 t.items[j].names.length e3]) := hx.keep fun b' hb' => HI.out.2.2.blk (by have := hSg b' hb'; omega) (by have := hSg b' hb'; omega)
          have hgr := Nat.lt_of_lt_of_le hg HI.out.2.2.size
          have hx2 : LV (wr.alloc (.cells #[.int .i64 t.items[j].kind, .int .i64 t.items[j].num, .string t.items[j].text, .slice A2 t.items[j].items.length e2, .slice A3 t.items[j].names.length e3] 49)) S t.items[j] (.agg #[.int .i64 t.items[j].kind, .int .i64 t.items[j].num, .string t.items[j].text, .slice A2 t.items[j].items.length e2, .slice A3 t.items[j].names.length e3]) := hx1.alloc (fun b' hb' => Nat.lt_trans (hSg b' hb') hgr) _
          have hdp := depthL_le (List.getElem_mem hlt)
          have hdt : depthT t = depthL t.items + 1 := by cases t; exact depthT_mk _ _ _ _ _
          have IH := Lib.hid (ih t.items[j] _ _ (lvl + 1) sj (by omega) hx2 (by simp; omega) (by omega) (hInv _ _ _ (Below.heap_alloc wr _ g hgr) HI.out.2.1))
          have hdr : t.items.drop j = t.items[j] :: t.items.drop (j + 1) := List.drop_eq_getElem_cons hlt
          have HDR := Lib.hid hdr
          have hcl : ((lvl + 1 : Nat) : Int) = (lvl : Int) + 1 := by omega
          rw [hcl] at IH
          clear hl hx hx1 hx2 hdr hdp hdt hcl hw hk
          go_wp2_with fail
          refine IH.out.mono ?_
          rintro e w2 ⟨rfl, hinv2, honly2⟩
          have hon2 : Only w w2 g := (HI.out.2.2.alloc _).trans honly2
          by_cases hf2 : (walkT f t.items[j] (lvl + 1) sj).2 = true
          · have HI2 : Hid (walkL f (t.items.drop (j + 1)) (lvl + 1) (walkT f t.items[j] (lvl + 1) sj).1 = R ∧ Inv w2 (walkT f t.items[j] (lvl + 1) sj).1 ∧ Only w w2 g) := by
              refine ⟨?_, hinv2, hon2⟩
              rw [← HI.out.1, HDR.out, walkL_go hf2]
            clear hinv2 honly2 hon2 IH HI HDR
            go_wp2_with fail
            go_roundw
            case rel => exact ⟨j + 1, _, by go_num, by omega, HI2⟩
            case measure => simp [intOf]; omega
          · have hfin : R = ((walkT f t.items[j] (lvl + 1) sj).1, false) := by
              rw [← HI.out.1, HDR.out, walkL_stop (by simpa using hf2)]
            have HI2 := Lib.hid (And.intro hinv2 hon2)
            have HF := Lib.hid hfin
            clear hinv2 honly2 hon2 IH HI HDR hfin
            go_wp2_with fail
            go_ret
            rw [HF.out]
            exact ⟨rfl, HI2.out⟩
        · have hfin : R = (sj, true) := by
            rw [← HI.out.1, List.drop_eq_nil_of_le (by omega), walkL_nil]
          have HF := Lib.hid hfin
          clear hfin
          go_wp2_with fail
          go_ret
          rw [HF.out]
          exact ⟨rfl, HI.out.2⟩
    · have HF : Hid (R = ((f t lvl st).1, false)) := by rw [← walkT_stop (by simpa using hf)]; exact HR.out.symm
      have HI2 := Lib.hid (And.intro hinv1 honly)
      clear hinv1 honly1 honly SEE HO HV
      go_wp2_with fail
      go_ret
      rw [HF.out]
      exact ⟨rfl, HI2.out⟩
end Go.Proofs.Yteakkbgfkcknlaa
