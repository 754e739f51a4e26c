import Derived.Test.YtbmcgbmegcpgnaaGreatRows
import Derived.WalkKit
import Derived.WalkSpells
import Derived.WalkLawsBesides
import Derived.Lib.SliceRun
import Derived.OpenShut
import Derived.Deep.QuietTactic
import Derived.BigQuiet
import Derived.Laws.ShiftsVarLaws
import Derived.Deep.RegionWith
import Derived.Laws.AppendOwnNone
set_option maxHeartbeats 200000
set_option maxRecDepth 20000
set_option linter.unusedSimpArgs false
namespace Go.Proofs.YtbmcgbmegcpgnaaGreat.Mth
def Bytes(zs:List Int):Prop:=∀i,0<=zs.getD i 0/\zs.getD i 0<256
end Go.Proofs.YtbmcgbmegcpgnaaGreat.Mth
namespace Go.Proofs.YtbmcgbmegcpgnaaGreat
open Go.RowKit
abbrev zod:=@World.cell?_alloc_at
abbrev zoe:=@World.cell?_alloc_past
abbrev zof:=@Below.refl
abbrev zog:=@World.block_lt_of_cell?
abbrev zoh:=@List.getElem?_eq_getElem
abbrev zoi:=@List.getD_eq_getElem?_getD
abbrev zoj:=@Array.getElem?_eq_some_iff
abbrev zok:=@List.getElem?_eq_some_iff
abbrev zol:=@List.mem_of_getElem?
abbrev zom:=@Nat.lt_of_lt_of_le
abbrev zon:=@Nat.zero_le
abbrev zoo:=@Option.some.injEq
abbrev zop:=@Below.heap_setCell
abbrev zoq:=@Option.some.inj
abbrev zos:=@Nat.le_refl
abbrev zot:=@World.cell?_setCell_same
abbrev zou:=@World.cell?_setCell_other
abbrev zov:=@Int.toNat_natCast
abbrev zow:=@World.size_setCell
abbrev zox:=@Value.slice.injEq
abbrev zoy:=@List.getElem?_map
abbrev zoz:=@Nat.le_trans
abbrev zoA:=@List.not_mem_nil
abbrev zoB:=@World.frozen?_alloc_at
abbrev zoC:=@Option.getD_some
abbrev zoD:=@List.mem_cons
abbrev zoE:=@List.length_map
abbrev zoF:=@Nat.lt_succ_self
abbrev zvv:=@List.length_cons
abbrev zoG:=@List.eq_nil_of_length_eq_zero
abbrev zoH:=@World.ownsRow_nil
abbrev zoI:=@List.take_add_one
abbrev zoJ:=@List.mem_map
abbrev zoK:=@Nat.zero_add
abbrev zoL:=@List.getElem?_append_left
abbrev zoM:=@List.drop_eq_getElem_cons
abbrev zoN:=@Nat.not_lt_zero
abbrev zoO:=@List.getElem?_append_right
abbrev zoP:=@List.drop_length
abbrev zoQ:=@List.take_succ_cons
abbrev zoR:=@List.getElem_of_mem
abbrev zoS:=@List.getElem_cons_zero
abbrev zoT:=@Array.getElem?_eq_getElem
abbrev zoU:=@List.drop_succ_cons
abbrev zvw:=@List.flatMap_cons
abbrev zoV:=@Below.setCell
abbrev zoW:=@List.getElem_cons_succ
abbrev zoX:=@decide_eq_false
abbrev zoY:=@decide_eq_true
theorem xv{k:IntKind}{a b:Int}(h:a=b):Ending.returned (.int k a)=.returned (.int k b):=by rw[h]
theorem zhs{k:IntKind}{a b:Int}(h:a=b):Value.int k a=.int k b:=by rw[h]
theorem zX(n:Int)(a:0<=n)(h:n<9223372036854775808):IntKind.i64.wrap n=n:=by
 simp[IntKind.wrap,IntKind.bits,IntKind.signed];omega
def BB(zs:List Int):List Value:=zs.map (Value.int .u8)
def Has(k:IntKind)(w:World)(a:Option Addr)(len:Nat)(zs:List Int):Prop:=
 zs.length=len/\(∀n∈zs,(Lit.int k n).wf=true)/\(zs=[]\/∃b off,a=some ⟨b,off,none⟩/\b<w.heap.size/\∀i,i<len->w.cell? ⟨b,off+i,none⟩=some (.int k (zs.getD i 0)))
theorem Has.below{k:IntKind}{w w':World}{a:Option Addr}{len B:Nat}{zs:List Int}(h:Has k w a len zs)(hb:Below B w w')(d:w.heap.size<=B):Has k w' a len zs:=by
 refine⟨h.1,h.2.1,?_⟩;rcases h.2.2 with h|⟨b,off,rfl,c,e⟩
 ·exact .inl h
 ·refine .inr ⟨b,off,rfl,zom c hb.size,fun i hi=>?_⟩
  rw[hb.cell (p:=⟨b,off+i,none⟩) (zom c d)];exact e i hi
theorem Has.bytes{w:World}{a:Option Addr}{len:Nat}{zs:List Int}(h:Has .u8 w a len zs):Mth.Bytes zs:=by
 intro i;by_cases hi:i<zs.length
 ·have hw:=h.2.1 zs[i] (List.getElem_mem hi);have:=bounds_u8 hw;simp only[zoi,zoh hi,zoC];omega
 ·simp[zoi,List.getElem?_eq_none (Nat.le_of_not_lt hi)]
theorem zi6(n:Int)(h:0<=n/\n<256):(Lit.int .u8 n).wf=true:=by
 simp[Lit.wf,IntKind.min,IntKind.max,IntKind.bits,IntKind.signed];omega
theorem Tryz.info5:(Tryz.prog.info? 5).map (fun i=>(i.zero,i.size,i.bytes))=some (some (.int .u8 0),1,1):=by kernel_rfl
theorem zmF(zs:List Int):∀u∈BB zs,u.oneCell'=true:=by
 intro u a;simp only[BB,zoJ]at a;obtain⟨x,_,rfl⟩:=a;rfl
theorem Has.some{k:IntKind}{w:World}{a:Option Addr}{len:Nat}{zs:List Int}(h:Has k w a len zs)(d:0<len):
 ∃b off,a=some ⟨b,off,none⟩/\b<w.heap.size/\∀i,i<len->w.cell? ⟨b,off+i,none⟩=some (.int k (zs.getD i 0)):=by
 rcases h.2.2 with c|c
 ·have:=h.1;rw[c]at this;simp at this;omega
 ·exact c
theorem zeo{w:World}{base g len cap:Nat}{zs:List Int}(h:w.ownsRow base 5 1 (.slice (some ⟨g,0,none⟩) len cap) len (BB zs))(hb:Mth.Bytes zs):Has .u8 w (some ⟨g,0,none⟩) len zs:=by
 have a:zs.length=len:=by simpa[BB]using h.1
 refine⟨a,?_,.inr ⟨g,0,rfl,(h.lt g rfl).2,fun i hi=>?_⟩⟩
 ·intro n b;obtain⟨i,hi,rfl⟩:=zoR b;have:=hb i;simp only[zoi,zoh hi,zoC]at this;exact zi6 _ this
 ·rw[zoK,h.cellAt i (by omega)]
  simp only[BB,zoy,zoi];rw[zoh (by omega)];rfl
theorem ze{W w:World}(h:Below W.heap.size W w){o:Obj}:Below W.heap.size W (w.alloc o):=h.alloc h.size o
theorem zh{W w w':World}(h:Below W.heap.size W w)(k:Below w.heap.size w w'):Below W.heap.size W w':=h.trans (k.mono h.size)
theorem Has.alloc{k:IntKind}{w:World}{a:Option Addr}{len:Nat}{zs:List Int}(h:Has k w a len zs){o:Obj}:Has k (w.alloc o) a len zs:=h.below (ze (zof _ _)) (zos _)
theorem Has.step{k:IntKind}{w w':World}{a:Option Addr}{len:Nat}{zs:List Int}(h:Has k w a len zs)(b:Below w.heap.size w w'):Has k w' a len zs:=h.below b (zos _)
theorem zaW{w:World}{base len:Nat}{v:Value}{zs:List Int}(h:w.ownsRow base 5 1 v len (BB zs))(hb:Mth.Bytes zs):∃a cap,v=.slice a len cap/\Has .u8 w a len zs:=by
 rcases h.2 with⟨rfl,rfl⟩|⟨g,cap,c,rfl,_⟩
 ·have b:zs.length=0:=by simpa[BB]using h.1
  exact⟨none,0,rfl,b,by rw[zoG b];simp,.inl (zoG b)⟩
 ·exact⟨_,cap,rfl,zeo h hb⟩
theorem zht{w:World}{ad:Addr}{m:Nat}{zs:List Int}(h:Has .u8 w (some ad) m zs):∀(j:Nat) (u:Value),(BB zs)[j]?=some u->w.cell? (ad.add j)=some u:=by
 intro j u c;have a:j<zs.length:=by
  have:=(zok.1 c).1;simpa[BB]using this
 have f:=h.1;obtain⟨b,off,e,_,d⟩:=h.some (by omega)
 simp only[zoo]at e;subst e;rw[Addr.add_lit,d j (by omega)]
 simp only[BB,zoy,zoh a,Option.map_some,zoo]at c;simp only[zoi,zoh a,zoC,c]
theorem zcg(P:Nat->Prop)(m:Nat):(∀j,j<m->P j)\/∃i,i<m/\¬P i/\∀j,j<i->P j:=by
 induction m with
 |zero=>exact .inl (fun j b=>absurd b (zoN _))
 |succ m ih=>
  rcases ih with h|⟨i,hi,d,c⟩
  ·by_cases a:P m
   ·refine .inl (fun j b=>?_)
    by_cases e:j=m
    ·subst e;exact a
    ·exact h j (by omega)
   ·exact .inr ⟨m,zoF _,a,h⟩
  ·exact .inr ⟨i,by omega,d,c⟩
theorem zW(k:IntKind)(w:World):Has k w none 0 []:=⟨rfl,by simp,.inl rfl⟩
theorem zs7{w:World}{ops:Array Oper}{rest:List Oper}{o:Oper}{a:Act}{Q:Exit->Act->World->Prop}(b:o.guard=none)(s x:Operand)
 (l:o.op=.call {callee:=.builtin .append,args:= #[s,x],argTypes:= #[30,30]}) (hs:a.eval s=.slice none 0 0) (ad:Option Addr) (m c:Nat) (zs:List Int) (j:a.eval x=.slice ad m c)
 (u:ad=none->m=0/\c=0) (hz:Has .u8 w ad m zs) (d:m<=10000000)
 (h:∀v' w',w'.ownsRow w.heap.size 5 1 v' m (BB zs)->Below w.heap.size w w'->wpList Tryz.prog ops Q rest (a.put o.dst v') w'):wpList Tryz.prog ops Q (o::rest) a w:=by
 obtain⟨n,hi,f,i,g⟩:=info_parts Tryz.info5;cases ad with
 |none=>
  obtain⟨rfl,rfl⟩:=u rfl;have e:zs=[]:=zoG hz.1;subst e;exact wpList_append_own_none b s x 30 l w.heap.size 5 n 1 Tryz.underlying30 hi (.slice none 0 0) 0 [] hs (zoH _ _ _ _) j (h _ _ (zoH _ _ _ _) (zof _ _))
 |some ad=>
  refine wpList_append_own w b s x 30 l w.heap.size 5 n (.int .u8 0) 1 1 Tryz.underlying30 hi f i g rfl (by decide) (.slice none 0 0) 0 [] hs (zoH _ _ _ _) ad m c (BB zs) j (by have:=hz.1;simp[BB];omega) (zht hz) (zmF zs) (by unfold maxLen;omega) (by omega) (zos _) ?_
  intro v' w' q r _;rw[zoK,List.nil_append]at q;exact h v' w' q ((zof _ _).grown r (zos _) (by intro k t;simp[Value.ownBlock]at t))
theorem zU{w w':World}{base:Nat}{e:TypeId}{size:Nat}{v:Value}{n:Nat}{b:List Value}(h:w.ownsRow base e size v n b)(hb:Below w.heap.size w w'):w'.ownsRow base e size v n b:=by
 refine⟨h.1,?_⟩;rcases h.2 with d|⟨g,cap,a,i,f,c,r⟩
 ·exact .inl d
 ·exact .inr ⟨g,cap,a,i,f,by rw[hb.block g (zoj.1 c).1];exact c,r⟩
theorem hid{p:Prop}(h:p):Hid p:=h
end Go.Proofs.YtbmcgbmegcpgnaaGreat
