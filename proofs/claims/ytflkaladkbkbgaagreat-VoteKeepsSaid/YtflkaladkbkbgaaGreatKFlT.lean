/- What stays of a file's beginning, whatever is done; which calls are looked at; which Keeps may be. -/
import Derived.Test.YtflkaladkbkbgaaGreatKFlS
import Derived.Test.YtflkaladkbkbgaaGreatKOpenB
import Derived.Test.YtflkaladkbkbgaaGreatKRefA
namespace Go.Proofs.YtflkaladkbkbgaaGreat
set_option linter.unusedVariables false
set_option linter.unusedSimpArgs false
open Go.RowKit Go.Maps
set_option maxRecDepth 100000
theorem Rd.strF {w : World} {B : Nat} {v : Value} {l : List UInt8} (h : Rd w B v l) : (convert 33 9 v).run Tryz.prog w = .ok (.string ⟨l.toArray⟩) w := by
  obtain ⟨A, cap, hv, -⟩ := id h
  rw [hv] at h ⊢
  have := h.conv (Nat.le_refl _) cap
  rw [List.take_length] at this
  exact this
/-- The file's first bytes are these, and are sure. -/
def Stays (lb : List UInt8) (M : DiskM) : Prop := ∃ f x, M.fs [102] = some f ∧ f.b = lb ++ x ∧ lb.length ≤ f.sure ∧ f.sure ≤ f.b.length
theorem Stays.of_put {lb : List UInt8} {M M' : DiskM} (h : Stays lb M) (nm : List UInt8) (f' : FileM) (hfs : M'.fs = (M.put nm f').fs) (hf : ∀ f, nm = [102] → M.fs [102] = some f → (∃ y, f'.b = f.b ++ y) ∧ f.sure ≤ f'.sure ∧ f'.sure ≤ f'.b.length) : Stays lb M' := by
  obtain ⟨f, x, h1, h2, h3, h4⟩ := h
  by_cases e : nm = [102]
  · obtain ⟨⟨y, hy⟩, h5, h6⟩ := hf f e h1
    refine ⟨f', x ++ y, by rw [hfs, e, put_fs_same], by rw [hy, h2, List.append_assoc], by omega, h6⟩
  · exact ⟨f, x, by rw [hfs, put_fs_other M nm [102] f' (fun e2 => e e2.symm)]; exact h1, h2, h3, h4⟩
theorem Stays.app {lb : List UInt8} {M : DiskM} (h : Stays lb M) (nm b : List UInt8) : Stays lb (M.app nm b).2 := by
  unfold DiskM.app
  have hput : ∀ y M', M'.fs = (M.put nm ⟨(M.file nm).b ++ y, (M.file nm).sure⟩).fs → Stays lb M' := fun y M' hM => h.of_put nm _ hM fun f e hf => by
    have hff : M.file nm = f := by unfold DiskM.file; rw [e, hf]; rfl
    obtain ⟨f2, x, h1, h2, h3, h4⟩ := h
    rw [hf] at h1
    injection h1 with h1
    subst h1
    exact ⟨⟨y, by rw [hff]⟩, by rw [hff]; exact Nat.le_refl _, by rw [hff]; show f.sure ≤ (f.b ++ y).length; rw [List.length_append]; omega⟩
  split
  · exact h
  split
  · exact h
  split
  · exact h
  split
  · exact h
  split
  · exact hput _ _ rfl
  · exact hput _ _ rfl
theorem Stays.snc {lb : List UInt8} {M : DiskM} (h : Stays lb M) (nm : List UInt8) : Stays lb (M.snc nm).2 := by
  unfold DiskM.snc
  split
  · exact h
  split
  · exact h
  split
  · exact h
  · rename_i f hf
    split
    · exact h
    · exact h.of_put nm _ rfl fun f2 e hf2 => by
        rw [e, hf2] at hf
        injection hf with hf
        subst hf
        obtain ⟨f3, x, h1, h2, h3, h4⟩ := h
        rw [hf2] at h1
        injection h1 with h1
        subst h1
        exact ⟨⟨[], by simp⟩, h4, Nat.le_refl _⟩
theorem Stays.stop {lb : List UInt8} {M : DiskM} (h : Stays lb M) (n t : Int) : Stays lb (M.stop n t).2 := by
  unfold DiskM.stop
  split
  · exact h
  split
  · exact h
  · exact h
theorem Stays.crash {lb : List UInt8} {M : DiskM} (h : Stays lb M) (l : List (List UInt8 × Int)) (hb : l.any (fun k => badNm k.1) = false) : (M.crash l).1 = 0 ∧ ∃ x, (M.crash l).2.read [102] = (lb ++ x, 0) := by
  obtain ⟨f, x, h1, h2, h3, h4⟩ := h
  unfold DiskM.crash
  rw [hb, if_neg (by decide)]
  refine ⟨rfl, ?_⟩
  obtain ⟨t, ht⟩ : ∃ t : Nat, t = (f.sure + min (max (keepOf l [102]) 0) ((f.b.length : Int) - f.sure)).toNat := ⟨_, rfl⟩
  have htl : lb.length ≤ t := by omega
  refine ⟨x.take (t - lb.length), ?_⟩
  have hb2 : badNm [102] = false := rfl
  unfold DiskM.read
  simp only [hb2, Bool.false_eq_true, if_false, h1, Option.map_some]
  unfold crashF
  rw [← ht, h2, List.take_append]
  rw [List.take_of_length_le htl]
set_option maxHeartbeats 1000000 in
theorem rName9_any (s : ByteArray) (w : World) (hs : s.size ≤ 140737488351232) : Calls Tryz.prog 23 #[.string s] w fun e w' => e = .returned (.bool (!badNm s.data.toList)) ∧ w' = w := by
  have HS := Lib.hid hs
  have HB := Lib.hid (badNm_size s)
  obtain ⟨n, hn⟩ : ∃ n, n = s.size := ⟨_, rfl⟩
  by_cases h1 : 1 ≤ n
  · by_cases h2 : n ≤ 24
    · have d1 : decide ((1 : Int) ≤ (s.size : Int)) = true := decide_eq_true (by omega)
      have d2 : decide ((s.size : Int) ≤ 24) = true := decide_eq_true (by omega)
      have hr : (!badNm s.data.toList) = true := by rw [HB.out, decide_eq_false (show ¬ s.size < 1 by omega), decide_eq_false (show ¬ 24 < s.size by omega)]; rfl
      have HR := Lib.hid hr
      clear hr hn
      go_enter Tryz.func23, Tryz.ntmps23
      go_wp2_with fail
      go_ret
      exact ⟨by rw [HR.out]; rfl, rfl⟩
    · have d1 : decide ((1 : Int) ≤ (s.size : Int)) = true := decide_eq_true (by omega)
      have d2 : decide ((s.size : Int) ≤ 24) = false := decide_eq_false (by omega)
      have hr : (!badNm s.data.toList) = false := by rw [HB.out, decide_eq_false (show ¬ s.size < 1 by omega), decide_eq_true (show 24 < s.size by omega)]; rfl
      have HR := Lib.hid hr
      clear hr hn
      go_enter Tryz.func23, Tryz.ntmps23
      go_wp2_with fail
      go_ret
      exact ⟨by rw [HR.out]; rfl, rfl⟩
  · have d1 : decide ((1 : Int) ≤ (s.size : Int)) = false := decide_eq_false (by omega)
    have hr : (!badNm s.data.toList) = false := by rw [HB.out, decide_eq_true (show s.size < 1 by omega)]; rfl
    have HR := Lib.hid hr
    clear hr hn
    go_enter Tryz.func23, Tryz.ntmps23
    go_wp2_with fail
    go_ret
    exact ⟨by rw [HR.out]; rfl, rfl⟩
set_option maxHeartbeats 2000000 in
theorem rKeeps9_any (A : Option Addr) (c : Nat) (ls : List (ByteArray × Int)) (S : Nat → Prop) (w : World) (hk : KeepsAt w S A ls) (hn : ls.length ≤ 140737488351232) : Calls Tryz.prog 9 #[.slice A ls.length c] w fun e w' => e = .returned (.bool (!((ksOf ls).any fun k => badNm k.1))) ∧ w' = w := by
  have HK := Lib.hid hk
  have HN := Lib.hid hn
  clear hk
  go_enter Tryz.func9, Tryz.ntmps9
  go_wp2_with fail
  go_loopw [3] (fun i wr => ∃ k : Nat, i = .int .i64 k ∧ k ≤ ls.length ∧ wr = w ∧ Hid (∀ j (h : j < ls.length), j < k → badNm ls[j].1.data.toList = false)) (fun i _ => ls.length - (intOf i).toNat)
  case atStart => exact ⟨0, rfl, Nat.zero_le _, rfl, Lib.hid fun j _ h => absurd h (by omega)⟩
  case round =>
    obtain ⟨k, rfl, hkl, rfl, HJ⟩ := hrel
    by_cases hlt : k < ls.length
    · obtain ⟨p, o, rfl, -, hc⟩ := HK.out (by omega)
      obtain ⟨hc0, -, hsz, -⟩ := hc k hlt
      have HSZ := Lib.hid hsz
      clear hc hsz
      go_wp2_with fail
      refine (rName9_any _ _ HSZ.out).mono ?_
      rintro e u ⟨rfl, rfl⟩
      cases hb : badNm ls[k].1.data.toList
      · have HBN := Lib.hid hb
        go_wp2_with fail
        go_roundw
        case rel => exact ⟨k + 1, by go_num, by omega, trivial, Lib.hid fun j h hjk => by
          by_cases e : j = k
          · subst e; exact HBN.out
          · exact HJ.out j h (by omega)⟩
        case measure => simp [intOf]; omega
      · have hany : ((ksOf ls).any fun k => badNm k.1) = true := List.any_eq_true.2 ⟨(ls[k].1.data.toList, ls[k].2), List.mem_map.2 ⟨ls[k], List.getElem_mem hlt, rfl⟩, hb⟩
        have HANY := Lib.hid hany
        clear hany
        go_wp2_with fail
        go_ret
        exact ⟨by rw [HANY.out]; rfl, rfl⟩
    · have hany : ((ksOf ls).any fun k => badNm k.1) = false := by
        rw [List.any_eq_false]
        intro x hx
        obtain ⟨q, hq, rfl⟩ := List.mem_map.1 hx
        obtain ⟨j, hj, rfl⟩ := List.mem_iff_getElem.1 hq
        rw [HJ.out j hj (by omega)]
        simp
      have HANY := Lib.hid hany
      clear hany
      go_wp2_with fail
      go_ret
      exact ⟨by rw [HANY.out]; rfl, rfl⟩
end Go.Proofs.YtflkaladkbkbgaaGreat
