/- Are two messages the same, by the document: any two. (Written by mkmgx.py.) -/
import Derived.Test.YtgfidiocmiolpaaGreatKMgG
set_option maxHeartbeats 64000000
set_option maxRecDepth 100000
set_option linter.unusedVariables false
set_option linter.unusedSimpArgs false
namespace Go.Proofs.YtgfidiocmiolpaaGreat
open Lib (hid)
open Go.RowKit Go.Joins
theorem oE (S:Nat→Prop)(a b:aQ)(EA:Option Addr)(ec:Nat)(SA:Option Addr)(sc:Nat)(FA:Option Addr)(fc:Nat)(TA:Option Addr)(tc:Nat)(w:World)(hS: ∀b,S b→b<w.heap.size)(ha:aT w S a EA ec SA sc)(hb:aT w S b FA fc TA tc):
  Calls Tryz.prog 11 #[.agg #[.int .i64 a.kind,.int .i64 a.frm,.int .i64 a.tgt,.int .i64 a.term,.int .i64 a.index,.int .i64 a.logTerm,.int .i64 a.commit,.int .i64 a.round,.bool a.ok,.slice EA a.ents.length ec,.slice SA a.snap.length sc],.agg #[.int .i64 b.kind,.int .i64 b.frm,.int .i64 b.tgt,.int .i64 b.term,.int .i64 b.index,.int .i64 b.logTerm,.int .i64 b.commit,.int .i64 b.round,.bool b.ok,.slice FA b.ents.length fc,.slice TA b.snap.length tc]] w fun e w'=>(∃r:Bool,e= .returned (.bool r)∧(r=true↔a=b))∧Below w.heap.size w w':=by
 by_cases hall:b= { a with ents:=b.ents,snap:=b.snap }
 ·obtain⟨es,hes⟩: ∃x,x=b.ents:=⟨_,rfl⟩;obtain⟨sn,hsn⟩: ∃x,x=b.snap:=⟨_,rfl⟩;rw[←hes,←hsn]at hall;subst hall;refine(lb S a es sn EA ec SA sc FA fc TA tc w a.ents.length es.length rfl rfl hS ha hb).mono ?_;rintro e w' ⟨⟨r,h1,h2⟩,h3⟩;refine⟨⟨r,h1,h2.trans ⟨fun h=> ?_,fun h=>⟨congrArg aQ.ents h,congrArg aQ.snap h⟩⟩⟩,h3⟩;rw[←h.1,←h.2]
 ·have HBW:Hid (∀c d,Below w.heap.size w ((w.alloc c).alloc d)):=hid fun c d=>(ae _).alloc (by simp) _;have HALL:=hid hall;clear ha hb hS hall;go_enter Tryz.func11,Tryz.ntmps11;by_cases qkind:a.kind=b.kind
  case neg=>
   have g1:(a.kind == b.kind)=false:=beq_false_of_ne qkind;go_wp2_with fail;go_ret;exact⟨⟨false,rfl,cS fun h=>qkind (by rw[h])⟩,HBW.out _ _⟩
  have Qkind:=hid qkind;have dkind:(a.kind == b.kind)=true:=beq_iff_eq.2 qkind;clear qkind;by_cases qfrm:a.frm=b.frm
  case neg=>
   have g1:(a.frm == b.frm)=false:=beq_false_of_ne qfrm;go_wp2_with fail;go_ret;exact⟨⟨false,rfl,cS fun h=>qfrm (by rw[h])⟩,HBW.out _ _⟩
  have Qfrm:=hid qfrm;have dfrm:(a.frm == b.frm)=true:=beq_iff_eq.2 qfrm;clear qfrm;by_cases qtgt:a.tgt=b.tgt
  case neg=>
   have g1:(a.tgt == b.tgt)=false:=beq_false_of_ne qtgt;go_wp2_with fail;go_ret;exact⟨⟨false,rfl,cS fun h=>qtgt (by rw[h])⟩,HBW.out _ _⟩
  have Qtgt:=hid qtgt;have dtgt:(a.tgt == b.tgt)=true:=beq_iff_eq.2 qtgt;clear qtgt;by_cases qterm:a.term=b.term
  case neg=>
   have g1:(a.term == b.term)=false:=beq_false_of_ne qterm;go_wp2_with fail;go_ret;exact⟨⟨false,rfl,cS fun h=>qterm (by rw[h])⟩,HBW.out _ _⟩
  have Qterm:=hid qterm;have dterm:(a.term == b.term)=true:=beq_iff_eq.2 qterm;clear qterm;by_cases qindex:a.index=b.index
  case neg=>
   have g1:(a.index == b.index)=false:=beq_false_of_ne qindex;go_wp2_with fail;go_ret;exact⟨⟨false,rfl,cS fun h=>qindex (by rw[h])⟩,HBW.out _ _⟩
  have Qindex:=hid qindex;have dindex:(a.index == b.index)=true:=beq_iff_eq.2 qindex;clear qindex;by_cases qlogTerm:a.logTerm=b.logTerm
  case neg=>
   have g1:(a.logTerm == b.logTerm)=false:=beq_false_of_ne qlogTerm;go_wp2_with fail;go_ret;exact⟨⟨false,rfl,cS fun h=>qlogTerm (by rw[h])⟩,HBW.out _ _⟩
  have QlogTerm:=hid qlogTerm;have dlogTerm:(a.logTerm == b.logTerm)=true:=beq_iff_eq.2 qlogTerm;clear qlogTerm;by_cases qcommit:a.commit=b.commit
  case neg=>
   have g1:(a.commit == b.commit)=false:=beq_false_of_ne qcommit;go_wp2_with fail;go_ret;exact⟨⟨false,rfl,cS fun h=>qcommit (by rw[h])⟩,HBW.out _ _⟩
  have Qcommit:=hid qcommit;have dcommit:(a.commit == b.commit)=true:=beq_iff_eq.2 qcommit;clear qcommit;by_cases qround:a.round=b.round
  case neg=>
   have g1:(a.round == b.round)=false:=beq_false_of_ne qround;go_wp2_with fail;go_ret;exact⟨⟨false,rfl,cS fun h=>qround (by rw[h])⟩,HBW.out _ _⟩
  have Qround:=hid qround;have dround:(a.round == b.round)=true:=beq_iff_eq.2 qround;clear qround;by_cases qok:a.ok=b.ok
  case neg=>
   have g1:(a.ok == b.ok)=false:=beq_false_of_ne qok;go_wp2_with fail;go_ret;exact⟨⟨false,rfl,cS fun h=>qok (by rw[h])⟩,HBW.out _ _⟩
  have Qok:=hid qok;have dok:(a.ok == b.ok)=true:=beq_iff_eq.2 qok;clear qok;exact absurd (aQ.same (b:= { a with ents:=b.ents,snap:=b.snap }) Qkind.out.symm Qfrm.out.symm Qtgt.out.symm Qterm.out.symm Qindex.out.symm QlogTerm.out.symm Qcommit.out.symm Qround.out.symm Qok.out.symm rfl rfl) HALL.out
end Go.Proofs.YtgfidiocmiolpaaGreat
