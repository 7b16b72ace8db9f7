import Derived.Test.YtdhognaoejiglaaGreatDoorKb37
import Derived.Test.YtdhognaoejiglaaGreatDoorKb38
namespace Go.Proofs.YtdhognaoejiglaaGreatDoor
open Lib (hid)
set_option maxRecDepth 100000
set_option maxHeartbeats 8000000
section
open Go.RowKit
theorem A3:(Tryz.prog.info? 29).map (fun i=>(i.zero,i.size,i.bytes))=some (some (.pointer none),1,8):=by kernel_rfl
def ptrV (n:Nat):Value:=.pointer (some ⟨n,0,none⟩)
def cR (w:World) (base:Nat) (v:Value) (l:List Nat):Prop:=w.ownsRow base 29 1 v l.length (l.map ptrV)
theorem CK (w:World) (base:Nat):cR w base (.slice none 0 0) []:=World.ownsRow_nil _ _ _ _
theorem cR.lt {w:World} {base:Nat} {v:Value} {l:List Nat} (h:cR w base v l):∀ k,v.ownBlock=some k→base≤k∧k<w.heap.size:=World.ownsRow.lt h
theorem cR.below {w w':World} {base:Nat} {v:Value} {l:List Nat} (h:cR w base v l) (hb:Below w.heap.size w w'):cR w' base v l:=by
 refine World.ownsRow.kept h (row:=none) ⟨hb.os,hb.tape,hb.output,hb.size,fun k hk _=>hb.block k hk⟩ ?_;cases hv:v.ownBlock with
 | none=>exact .inl rfl
 | some g=>exact .inr (by simp)
theorem cR.same {w w':World} {base:Nat} {v:Value} {l:List Nat} (h:cR w base v l) (hb:∀ k,v.ownBlock=some k→w'.heap[k]? = w.heap[k]?):cR w' base v l:=by
 refine ⟨h.1,?_⟩;rcases h.2 with h1 | ⟨g,cap,cur,hv,hg,hh,r⟩
 ·exact .inl h1
 ·exact .inr ⟨g,cap,cur,hv,hg,(hb g (by rw [hv];rfl)).trans hh,r⟩
theorem cR.forms {w:World} {base:Nat} {v:Value} {l:List Nat} (h:cR w base v l) (h0:l≠[]) :
 ∃ g cap,v=.slice (some ⟨g,0,none⟩) l.length cap∧base≤g∧g<w.heap.size∧∀ j P,l[j]? = some P→w.cell? ⟨g,j,none⟩=some (.pointer (some ⟨P,0,none⟩)):=by
 have hall:=h;obtain ⟨_,h1⟩:=h;rcases h1 with ⟨rfl,hn⟩ | ⟨g,cap,cur,rfl,hb,hh,hc,hm,hs,ht⟩
 ·exact absurd (List.length_eq_zero_iff.1 hn) h0
 ·refine ⟨g,cap,rfl,hb,(World.ownsRow.lt hall g rfl).2,fun j P hj=>?_⟩;have hjl:=(List.getElem?_eq_some_iff.1 hj).1;rw [World.ownsRow.cellAt hall j (by omega)];simp [hj,ptrV]
theorem Gf {w:World} {ops:Array Oper} {rest:List Oper} {o:Oper} {a:Act} {Q:Exit→Act→World→Prop} (hgd:o.guard=none) (s x:Operand)
 (ho:o.op=.call { callee:=.builtin .append,args:=#[s,x],argTypes:=#[26,26] })
 (base:Nat) (v:Value) (l:List Nat) (hs:a.eval s=v) (hown:cR w base v l)
 (ad:Addr) (c:Nat) (hx:a.eval x=.slice (some ad) 1 c) (d:Nat) (hcell:w.cell? (ad.add 0)=some (.pointer (some ⟨d,0,none⟩)))
 (hlen:l.length+1≤8796093022208) (hbase:base≤w.heap.size)
 (h:∀ g cap w',cR w' base (.slice (some ⟨g,0,none⟩) (l.length+1) cap) (l++[d])→w.grownBy w' v.ownBlock→(v.ownBlock=some g∨g=w.heap.size)→wpList Tryz.prog ops Q rest (a.put o.dst (.slice (some ⟨g,0,none⟩) (l.length+1) cap)) w'):wpList Tryz.prog ops Q (o::rest) a w:=by
 obtain ⟨i0,hi,hz0,hz1,hz2⟩:=info_parts A3;refine wpList_append_lies w hgd s x 26 ho base 29 i0 (.pointer none) 1 8 Tryz.underlying26 hi hz0 hz1 hz2 rfl (by decide) v l.length (l.map ptrV) hs hown ad 1 c [ptrV d] hx rfl ?_ ?_ (by decide) (by unfold maxLen;omega) (by omega) hbase _ rfl ?_
 ·intro j u hj
  match j,hj with
  | 0,hj=>simp at hj;subst hj;exact hcell
 ·intro u hu;simp at hu;subst hu;rfl
 ·intro g cap w' h1 h2 h3 _;refine h g cap w' ?_ h2 h3;unfold cR;rw [List.length_append,List.map_append];exact h1
structure PT (W w:World) (D:Nat→Prop) (v:Value) (L:List (Nat×LogS)):Prop where
 logs:Logs W w D L
 ptrs:cR w W.heap.size v (L.map Prod.fst)
 inD:∀ k,v.ownBlock=some k→D k
theorem PT.keep {W w w':World} {D:Nat→Prop} {v:Value} {L:List (Nat×LogS)} (h:PT W w D v L) (hb:Below w.heap.size w w'):PT W w' D v L:=⟨h.logs.keep hb,h.ptrs.below hb,h.inD⟩
theorem lM {L:List (Nat×LogS)} {i P:Nat} {s s':LogS} (hi:L[i]? = some (P,s)):(L.set i (P,s')).map Prod.fst=L.map Prod.fst:=by
 apply List.ext_getElem?
 intro k;rw [List.getElem?_map,List.getElem?_map];by_cases e:k=i
 ·subst e;rw [List.getElem?_set_self (List.getElem?_eq_some_iff.1 hi).1,hi];rfl
 ·rw [List.getElem?_set_ne (fun h=>e h.symm)]
theorem oA {L:List (Nat×LogS)} {i P:Nat} {s':LogS}:(L.set i (P,s')).map Prod.snd=(L.map Prod.snd).set i s':=by
 rw [List.map_set]
theorem PT.step {W w w':World} {D:Nat→Prop} {v:Value} {L:List (Nat×LogS)} {i P:Nat} {s s':LogS} (h:PT W w D v L) (hi:L[i]? = some (P,s)) (g:Logs W w' D (L.set i (P,s'))) (hd:∀ k,D k→w'.heap[k]? = w.heap[k]?):PT W w' D v (L.set i (P,s')) :=
 ⟨g,by rw [lM hi];exact h.ptrs.same (fun k hk=>hd k (h.inD k hk)),h.inD⟩
theorem Logs.touch {W w w':World} {D D':Nat→Prop} {L:List (Nat×LogS)} (h:Logs W w D L) (hb:But D w w') (hW:∀ k,D k→W.heap.size≤k) (hD:∀ k,D' k→D k∨(w.heap.size≤k∧k<w'.heap.size)):Logs W w' D' L:=by
 obtain ⟨⟨Fs,h1,h2,h3⟩,h4,h5,h6⟩:=h;refine ⟨⟨Fs,fun i P s hi=>⟨(h1 i P s hi).1.but hb (fun k hf hd=>h3 i k (List.getElem?_eq_some_iff.1 hi).1 hd hf),(h1 i P s hi).2⟩,h2,fun i k hi hk hf=>?_⟩,fun k hk=>?_,h5,But.on h6 hb h6.size hW⟩
 ·rcases hD k hk with h | ⟨h,_⟩
  ·exact h3 i k hi h hf
  ·obtain ⟨⟨P,s⟩,hL⟩:∃ p,L[i]? = some p:=⟨_,List.getElem?_eq_getElem hi⟩;have:=(h1 i P s hL).1.lt k hf;omega
 ·rcases hD k hk with h | ⟨_,h⟩
  ·exact Nat.lt_of_lt_of_le (h4 k h) hb.size
  ·exact h
end
section
open Go.RowKit
theorem ms {W w:World} {D:Nat→Prop} {L:List (Nat×LogS)} (h:Logs W w D L) {i P:Nat} {s:LogS} (hi:L[i]? = some (P,s)) (T0 R0 K:Int) (key val:ByteArray) (N:Int) (hk:key.size≤140737488351232) (hv:val.size≤140737488351232) (hg:errT w) (he:lcE s ⟨T0,R0,K,key,val,N⟩=0)
 (t r:Int) (s':LogS) (ht:maxT s.hv+1=t) (hr:s.rep=r) (hs:lcS s ⟨T0,R0,K,key,val,N⟩=s') :
 Calls Tryz.prog 30 #[.pointer (some ⟨P,0,none⟩),.agg #[.int .i64 T0,.int .i64 R0,.int .i64 K,.string key,.string val,.int .i64 N]] w fun e w' =>
  e=.returned (.tuple #[.agg #[.int .i64 t,.int .i64 r],.nilIface])∧Logs W w' D (L.set i (P,s'))∧(∀ k,D k→w'.heap[k]? = w.heap[k]?)∧w.heap.size≤w'.heap.size:=by
 subst ht hr hs;exact pH h hi T0 R0 K key val N hk hv hg he
theorem jM {W w:World} {D:Nat→Prop} {L:List (Nat×LogS)} (h:Logs W w D L) {i P:Nat} {s:LogS} (hi:L[i]? = some (P,s)) (uf uh uw:Value) (f hh:List Ent) (b:List Wr) (hx:aC w uf uh uw f hh b) (hg:errT w) (he:(accE s f hh b).1=0)
 (n:Nat) (s':LogS) (hn:(bd s.ws b).length=n) (hs:accS s hh b=s') :
 Calls Tryz.prog 23 #[.pointer (some ⟨P,0,none⟩),.agg #[uf,uh,uw]] w fun e w' =>
  e=.returned (.tuple #[.int .i64 (n:Int),.nilIface])∧Logs W w' D (L.set i (P,s'))∧(∀ k,D k→w'.heap[k]? = w.heap[k]?)∧w.heap.size≤w'.heap.size:=by
 subst hn hs;exact wh h hi uf uh uw f hh b hx hg he
theorem fm {W w:World} {D:Nat→Prop} {L:List (Nat×LogS)} (h:Logs W w D L) {i P:Nat} {s:LogS} (hi:L[i]? = some (P,s)) (v:Value) (f:List Ent) (hf:ae w v f) (hfl:f.length≤9223372036854775807) (hg:errT w) (he:bo s f=0)
 (nf nh nb:Nat) (sh:List Ent) (sb:List Wr) (hnf:f.length=nf) (hsh:aT s f=sh) (hsb:aD s f=sb) (hnh:sh.length=nh) (hnb:sb.length=nb) :
 Calls Tryz.prog 22 #[.pointer (some ⟨P,0,none⟩),v] w fun e w'=>∃ a1 c1 a2 c2 a3 c3,e=.returned (.tuple #[.agg #[.slice a1 nf c1,.slice a2 nh c2,.slice a3 nb c3],.nilIface]) ∧
  ag w' w.heap.size (.slice a1 nf c1) f∧ag w' w.heap.size (.slice a2 nh c2) sh∧ak w' w.heap.size (.slice a3 nb c3) sb∧Below w.heap.size w w':=by
 subst hnf hsh hsb hnh hnb;exact wl h hi v f hf hfl hg he
theorem pG {W w:World} {D:Nat→Prop} {L:List (Nat×LogS)} (h:Logs W w D L) {i P:Nat} {s:LogS} (hi:L[i]? = some (P,s)) (n:Nat) (hn:(cg s.ws).length=n) :
 Calls Tryz.prog 34 #[.pointer (some ⟨P,0,none⟩)] w fun e w'=>∃ a c,e=.returned (.slice a n c)∧fN w' (.slice a n c) (cg s.ws)∧Below w.heap.size w w'∧∀ k,Value.ownBlock (.slice a n c)=some k→w.heap.size≤k:=by
 refine (wj h hi).mono ?_;rintro e w' ⟨u,rfl,hu,hb,hf⟩;have hu':=hu;obtain ⟨zs,hv,hl,_⟩:=hu;obtain ⟨a,c,rfl,_⟩:=hv.form;rw [hl,hn] at hu' hf ⊢;exact ⟨a,c,rfl,hu',hb,hf⟩
theorem bH {W w:World} {D:Nat→Prop} {L:List (Nat×LogS)} (h:Logs W w D L) {i P:Nat} {s:LogS} (hi:L[i]? = some (P,s)) (n:Nat) (hn:s.hv.length=n) :
 Calls Tryz.prog 17 #[.pointer (some ⟨P,0,none⟩)] w fun e w'=>∃ a c,e=.returned (.slice a n c)∧ag w' w.heap.size (.slice a n c) s.hv∧Below w.heap.size w w':=by
 subst hn;exact wk h hi
def ldA0:LogS:=⟨1,[],[]⟩
def ldB0:LogS:=⟨2,[],[]⟩
def ldx:Wr:=⟨1,1,1,⟨#[107]⟩,⟨#[118]⟩,0⟩
def ldA1:LogS:=⟨1,[⟨1,1⟩],[ldx]⟩
def ldB1:LogS:=⟨2,[⟨1,1⟩],[ldx]⟩
def ldB2:LogS:=⟨2,[⟨1,1⟩,⟨2,2⟩],[ldx,⟨2,2,2,⟨#[107]⟩,⟨#[]⟩,0⟩]⟩
theorem sl:lcE ldA0 ⟨0,0,1,⟨#[107]⟩,⟨#[118]⟩,0⟩=0:=by decide +kernel
theorem sq:lcS ldA0 ⟨0,0,1,⟨#[107]⟩,⟨#[118]⟩,0⟩=ldA1:=by
 unfold lcS;rw [show lcJ ldA0=(0,[⟨1,1⟩]) from by decide +kernel]
 rfl
theorem sn:aM ldA1:=by rw [←sq];exact kZ (l5 (by omega)) sl
theorem AT:aM ldB0:=l5 (by omega)
theorem j8:bo ldA1 []=0∧aT ldA1 []=[⟨1,1⟩]∧aD ldA1 []=[ldx]:=by
 refine ⟨by decide +kernel,?_,?_⟩
 ·have h:(aO ldA1 []).length≤60:=by decide +kernel
  unfold aT;rw [if_pos h];rfl
 ·have h:(aO ldA1 []).length≤60:=by decide +kernel
  unfold aD;rw [if_pos h];rfl
theorem nQ:(accE ldB0 [] [⟨1,1⟩] [ldx]).1=0∧(bd ldB0.ws [ldx]).length=1∧accS ldB0 [⟨1,1⟩] [ldx]=ldB1:=by
 have hf:aB ([]:List Ent):=⟨by simp,trivial⟩;have hc:covB ldA1.hv []=true:=by decide +kernel
 have ho:=oD sn hf hc;rw [j8.2.1,j8.2.2] at ho;obtain ⟨_,h2,h3,h4⟩:=oz (t:=ldB0) sn AT ho;refine ⟨?_,by rw [h2];rfl,?_⟩
 ·have h5:accE ldB0 [] [⟨1,1⟩] [ldx]=if 300<ldB0.ws.length+[ldx].length then (12,-1) else (0,-1):=h4
  rw [h5,if_neg (by decide)]
 ·have h6:aR ldB0.hv [⟨1,1⟩]=(0,[⟨1,1⟩]):=h3;unfold accS;rw [h2,h6];show (⟨2,[⟨1,1⟩],de [ldx]⟩:LogS)=_
  unfold de;rw [List.mergeSort_singleton]
  rfl
theorem AS:lcE ldB1 ⟨0,0,2,⟨#[107]⟩,⟨#[]⟩,0⟩=0:=by decide +kernel
theorem AU:lcS ldB1 ⟨0,0,2,⟨#[107]⟩,⟨#[]⟩,0⟩=ldB2:=by
 unfold lcS;rw [show lcJ ldB1=(0,[⟨1,1⟩,⟨2,2⟩]) from by decide +kernel]
 rfl
theorem AR:covB ldB2.hv ldA1.hv=true:=by decide +kernel
theorem AQ:(cg ldB2.ws).length=0:=by
 rw [List.length_eq_zero_iff,List.eq_nil_iff_forall_not_mem];rintro ⟨k,c⟩ hm;obtain ⟨h1,h2⟩:=qw.1 hm;by_cases hk:k=⟨#[107]⟩
 ·subst hk;have:cx ldB2.ws ⟨#[107]⟩=cel0:=by rfl
  rw [this] at h1;subst h1;cases h2
 ·rw [ke (fun w hw => by
   simp only [ldB2,ldx,List.mem_cons,List.not_mem_nil,or_false] at hw
   rcases hw with rfl | rfl
   ·exact fun e=>hk e.symm
   ·exact fun e=>hk e.symm)] at h1
  subst h1;cases h2
theorem AP:(cg ldA1.ws).length=1:=by
 have h:cg ldA1.ws=[(⟨#[107]⟩,⟨true,⟨#[118]⟩,0,[]⟩)]:=by
  refine (qx ldA1.ws).unique ⟨by simp,by simp,fun k c=>?_⟩;simp only [List.mem_cons,Prod.mk.injEq,List.not_mem_nil,or_false]
  constructor
  ·rintro ⟨rfl,rfl⟩;exact ⟨rfl,rfl⟩
  ·rintro ⟨h1,h2⟩;by_cases hk:k=⟨#[107]⟩
   ·subst hk;exact ⟨rfl,h1.symm.trans rfl⟩
   ·rw [ke (fun w hw => by
     simp only [ldA1,ldx,List.mem_cons,List.not_mem_nil,or_false] at hw
     subst hw;exact fun e=>hk e.symm)] at h1
    subst h1;cases h2
 rw [h];rfl
theorem gf (W:World) (hg:errT W):Calls Tryz.prog 11 #[] W fun e w'=>e=.returned (.bool true)∧Below W.heap.size W w':=by
 have HG:=hid hg;have HL0:=hid (Logs.nil W);clear hg;go_enter Tryz.func11,Tryz.ntmps11
 go_wp2_with (first
  | (go_at_call 21;(with_reducible refine (Gnew HL0.out 1 (by omega)).mono ?_);rintro r w1 ⟨rfl,h1,hb1⟩;have HL1:Hid (Logs W w1 (fun _=>False) [(W.heap.size,ldA0)]):=hid h1;clear h1 hb1)
  | (go_at_call 21;(with_reducible refine (Gnew HL1.out 2 (by omega)).mono ?_);rintro r w2 ⟨rfl,h2,hb2⟩;have HL2:Hid (Logs W w2 (fun _=>False) [(W.heap.size,ldA0),(w1.heap.size,ldB0)]):=hid h2;clear h2 hb2)
  | (go_at_call 30; (with_reducible refine (ms (i := 0) HL2.out rfl 0 0 1 ⟨#[107]⟩ ⟨#[118]⟩ 0 (by decide) (by decide) (HG.out.below HL2.out.bel) sl 1 1 ldA1 rfl rfl sq).mono ?_); rintro r w3 ⟨rfl, h3, _, _⟩; have HL3 : Hid (Logs W w3 (fun _ => False) [(W.heap.size, ldA1), (w1.heap.size, ldB0)]) := hid h3; clear h3;
      have HX3:Hid (Logs W (w3.alloc (.cells #[.int .i64 1,.int .i64 1] 36)) (fun k=>k=w3.heap.size) [(W.heap.size,ldA1),(w1.heap.size,ldB0)]):=hid (HL3.out.call ((Below.refl _ _).alloc (Nat.le_refl _) _) (fun k (e:k=_)=>.inr (by rw [e];simp))))
  | (go_at_call 22; (with_reducible refine (fm (i := 0) HX3.out rfl (.slice none 0 0) [] (ae.nil _) (by simp) (HG.out.below HX3.out.bel) j8.1 0 1 1 [⟨1, 1⟩] [ldx] rfl j8.2.1 j8.2.2 rfl rfl).mono ?_); rintro r w4 ⟨a1, c1, a2, c2, a3, c3, rfl, o1, o2, o3, hb4⟩;
      have HL4:Hid (Logs W (w4.alloc (.cells #[.slice a1 0 c1,.slice a2 1 c2,.slice a3 1 c3] 47)) (fun k=>k=w3.heap.size) [(W.heap.size,ldA1),(w1.heap.size,ldB0)]):=hid (HX3.out.keep (hb4.alloc hb4.size _));have HBT:Hid (aC (w4.alloc (.cells #[.slice a1 0 c1,.slice a2 1 c2,.slice a3 1 c3] 47)) (.slice a1 0 c1) (.slice a2 1 c2) (.slice a3 1 c3) [] [⟨1,1⟩] [ldx]):=hid (aC.alloc (fV o1 o2 o3 (by simp) (by simp) (by simp) (fun x hx=>by rw [List.mem_singleton.1 hx];decide +kernel)) _);have HR4:Hid ((w4.alloc (.cells #[.slice a1 0 c1,.slice a2 1 c2,.slice a3 1 c3] 47)).heap[w3.heap.size]? = some (.cells #[.int .i64 1,.int .i64 1] 36 (0,0))):=hid (((hb4.alloc hb4.size _).block _ (by simp)).trans (heap_alloc_new _ _));clear o1 o2 o3 hb4)
  | (go_at_call 23;(with_reducible refine (jM (i:=1) HL4.out rfl _ _ _ [] [⟨1,1⟩] [ldx] HBT.out (HG.out.below HL4.out.bel) nQ.1 1 ldB1 nQ.2.1 nQ.2.2).mono ?_);rintro r w5 ⟨rfl,h5,hd5,_⟩;have HL5:Hid (Logs W w5 (fun k=>k=w3.heap.size) [(W.heap.size,ldA1),(w1.heap.size,ldB1)]):=hid h5;have HR5:=hid ((hd5 w3.heap.size rfl).trans HR4.out);clear h5 hd5)
  | (go_at_call 30; (with_reducible refine (ms (i := 1) HL5.out rfl 0 0 2 ⟨#[107]⟩ ⟨#[]⟩ 0 (by decide) (by decide) (HG.out.below HL5.out.bel) AS 2 2 ldB2 rfl rfl AU).mono ?_); rintro r w6 ⟨rfl, h6, hd6, hs6⟩; have HL6 : Hid (Logs W (w6.alloc (.cells #[.int .i64 2, .int .i64 2] 36)) (fun k => k = w3.heap.size) [(W.heap.size, ldA1), (w1.heap.size, ldB2)]) := hid (Logs.keep h6 ((Below.refl _ _).alloc (Nat.le_refl _) _)); have hr6 := (hd6 w3.heap.size rfl).trans HR5.out; have hlt := (Array.getElem?_eq_some_iff.1 hr6).1; have hr7 := (Below.heap_alloc w6 (.cells #[.int .i64 2, .int .i64 2] 36) _ hlt).trans hr6;
      have x0:(w6.alloc (.cells #[.int .i64 2,.int .i64 2] 36)).cell? ⟨w3.heap.size,0,none⟩=some (.int .i64 1):=cell_of_row _ _ 0 _ _ _ hr7;have x1:(w6.alloc (.cells #[.int .i64 2,.int .i64 2] 36)).cell? ⟨w3.heap.size,1,none⟩=some (.int .i64 1):=cell_of_row _ _ 1 _ _ _ hr7;clear h6 hd6 hr6 hr7 hlt hs6)
  | (go_at_call 34;(with_reducible refine (pG (i:=1) HL6.out rfl 0 AQ).mono ?_);rintro r w7 ⟨a7,c7,rfl,_,hb7,_⟩;have HL7:=hid (HL6.out.keep hb7);clear hb7)
  | (go_at_call 34;(with_reducible refine (pG (i:=0) HL7.out rfl 1 AP).mono ?_);rintro r w8 ⟨a8,c8,rfl,_,hb8,_⟩;have HL8:=hid (HL7.out.keep hb8);clear hb8)
  | (go_at_call 17;(with_reducible refine (bH (i:=1) HL8.out rfl 2 rfl).mono ?_);rintro r w9 ⟨a9,c9,rfl,ho9,hb9⟩;have HL9:=hid (HL8.out.keep hb9);have HO9:=hid ho9;clear hb9 ho9)
  | (go_at_call 17;(with_reducible refine (bH (i:=0) HL9.out rfl 1 rfl).mono ?_);rintro r w10 ⟨a10,c10,rfl,ho10,hb10⟩;have HL10:=hid (HL9.out.keep hb10);have HO10:=hid ho10;have HO9B:=hid (HO9.out.below hb10);clear hb10 ho10)
  | (go_at_call 26;(with_reducible refine (dn _ _ ldB2.hv ldA1.hv true w10 HO9B.out.is HO10.out.is (by decide) (by decide) AR).mono ?_);rintro r w11 ⟨rfl,hb11⟩;have HL11:=hid (HL10.out.keep hb11);clear hb11)
  | fail)
 go_ret;exact ⟨rfl,HL11.out.bel⟩
end
section
open Go.RowKit
def newL (k:Nat):List LogS:=(List.range k).map fun i:Nat=>(⟨(i:Int),[],[]⟩:LogS)
theorem BA (k:Nat):newL (k+1)=newL k++[⟨(k:Int),[],[]⟩]:=by unfold newL;rw [List.range_succ,List.map_append];rfl
theorem By (k:Nat):(newL k).length=k:=by simp [newL]
structure NL (W wr:World) (k:Nat) (v:Value) (L:List (Nat×LogS)):Prop where
 pt:PT W wr (fun i=>v.ownBlock=some i) v L
 snd:L.map Prod.snd=newL k
theorem NL.len {W wr:World} {k:Nat} {v:Value} {L:List (Nat×LogS)} (h:NL W wr k v L):L.length=k:=by
 have:=congrArg List.length h.snd
 rwa [List.length_map,By] at this
theorem Bg (n:Nat) (hn:1≤n∧n≤200) (W:World) :
 Calls Tryz.prog 37 #[.int .i64 (n:Int)] W fun e w'=>∃ g c L,e=.returned (.slice (some ⟨g,0,none⟩) n c)∧NL W w' n (.slice (some ⟨g,0,none⟩) n c) L:=by
 go_enter Tryz.func37,Tryz.ntmps37
 go_wp2
 go_loopw [3,8] (fun v i wr=>∃ k:Nat,k≤n∧i=.int .i64 k∧∃ L,NL W wr k v L) (fun _ i _=>n-(intOf i).toNat)
 case atStart=>exact ⟨0,by omega,rfl,[],⟨(Logs.nil W).call (Below.refl _ _) (fun k h=>by cases h),CK _ _,fun k h=>h⟩,rfl⟩
 case round =>
  obtain ⟨k,hk,rfl,L,hf⟩:=hrel;have HF:=hid hf;clear hf;by_cases hlt:k<n
  ·have b1:decide ((k:Int)<(n:Int))=true:=by simpa using hlt
   go_wp2_with (first
    | (go_at_call 21;(with_reducible refine (Gnew HF.out.pt.logs (k:Int) (by omega)).mono ?_);rintro r w3 ⟨rfl,h3,hb3⟩;have HL3:=hid h3;have HB3:=hid hb3;have HO3:=hid (HF.out.pt.ptrs.below hb3);clear h3 hb3)
    | (at_builtin;refine Gf rfl _ _ rfl W.heap.size _ (L.map Prod.fst) rfl (HO3.out.below ((Below.refl _ _).alloc (Nat.le_refl _) _)) ⟨w3.heap.size,0,none⟩ 1 rfl wr.heap.size ?c1 ?c2 ?c3 ?_)
    | fail)
   case c1=>simp [Addr.add]
   case c2=>have:=HF.out.len;rw [List.length_map];omega
   case c3=>have:=HL3.out.bel.size;simp;omega
   intro g c w4 ho4 hg4 hgb;have HO4:=hid ho4;have HG4:=hid hg4;have HGB:=hid hgb;clear ho4 hg4 hgb;go_wp2;go_roundw
   ·refine ⟨k+1,by omega,by simp,L++[(wr.heap.size,⟨(k:Int),[],[]⟩)],?_,?_⟩
    ·have h1:=HL3.out.keep ((Below.refl _ _).alloc (Nat.le_refl _) (.cells #[.pointer (some ⟨wr.heap.size,0,none⟩)] 29));have h2:But (fun i=>u3.ownBlock=some i) _ w4:=(But.refl _ _).grown HG4.out (fun k e=>.inl e);have h3:=HO4.out.lt;refine ⟨h1.touch h2 (fun k hk=>(HF.out.pt.ptrs.lt k hk).1) (fun k hk=>?_),?_,fun k h=>h⟩
     ·have hkg:g=k:=Option.some.inj hk;subst hkg;rcases HGB.out with h | h
      ·exact .inl h
      ·exact .inr ⟨Nat.le_of_eq ((World.size_alloc w3 _).trans h.symm),(h3 g rfl).2⟩
     ·rw [List.map_append];have h5:=HO4.out;rw [HF.out.len] at h5 ⊢;exact h5
    ·rw [List.map_append,HF.out.snd,BA];rfl
   ·simp [intOf];omega
  ·have b1:decide ((k:Int)<(n:Int))=false:=by simp;omega
   obtain rfl:k=n:=by omega
   obtain ⟨g,c,rfl,_⟩:=HF.out.pt.ptrs.forms (fun h=>by have:=HF.out.len;have h2:=congrArg List.length h;rw [List.length_map,List.length_nil] at h2;omega);go_wp2;go_ret;have hlk:(L.map Prod.fst).length=k:=by rw [List.length_map];exact HF.out.len
   have h5:=HF.out;rw [hlk] at h5;exact ⟨g,c,L,by rw [←hlk];rfl,h5⟩
end
section
open Go.RowKit
theorem CE {w w':World} {B R:Nat} {v:Value} {l:List Ent} (h:ag w B v l) (hR:R<B) (hg:w.grownBy w' (some R)):ag w' B v l :=
 World.ownsRow.kept h hg (.inr (fun e=>by have:=(h.lt R e).1;omega))
def NX (w:World) (R:Nat) (s:ByteArray) (b:Nat) (c0 c1 c2 c3 c4 c5:Value) (wr:World):Prop :=
 Rd wr R s b∧w.grownBy wr (some R)∧wr.heap[w.heap.size+1]? = some (.cells #[c0,c1,c2,c3,c4,c5] 38 (0,0))∧wr.heap[w.heap.size]? = some (.cells #[.int .i64 0,.int .i64 0,.int .i64 0,.string ⟨#[]⟩,.string ⟨#[]⟩,.int .i64 0] 38 (0,0))∧R<w.heap.size
theorem NX.get {w wr w':World} {R:Nat} {s:ByteArray} {b b':Nat} {c0 c1 c2 c3 c4 c5:Value} (h:NX w R s b c0 c1 c2 c3 c4 c5 wr) (hr:Rd w' R s b') (hg:wr.grownBy w' (some R)):NX w R s b' c0 c1 c2 c3 c4 c5 w':=by
 obtain ⟨h1,h2,h3,h4,h5⟩:=h;exact ⟨hr,cJ h2 hg (fun k hk=>.inl (by injection hk with hk;exact hk.symm)),(hg.block _ (Array.getElem?_eq_some_iff.1 h3).1 (by simp;omega)).trans h3,(hg.block _ (Array.getElem?_eq_some_iff.1 h4).1 (by simp;omega)).trans h4,h5⟩
theorem NX.cells {w wr:World} {R:Nat} {s:ByteArray} {b:Nat} {c0 c1 c2 c3 c4 c5:Value} (h:NX w R s b c0 c1 c2 c3 c4 c5 wr) :
 (wr.cell? ⟨w.heap.size+1,0,none⟩=some c0∧wr.cell? ⟨w.heap.size+1,1,none⟩=some c1∧wr.cell? ⟨w.heap.size+1,2,none⟩=some c2∧wr.cell? ⟨w.heap.size+1,3,none⟩=some c3∧wr.cell? ⟨w.heap.size+1,4,none⟩=some c4∧wr.cell? ⟨w.heap.size+1,5,none⟩=some c5)∧dU wr (w.heap.size+1) :=
 ⟨⟨cell_of_row _ _ 0 _ _ _ h.2.2.1,cell_of_row _ _ 1 _ _ _ h.2.2.1,cell_of_row _ _ 2 _ _ _ h.2.2.1,cell_of_row _ _ 3 _ _ _ h.2.2.1,cell_of_row _ _ 4 _ _ _ h.2.2.1,cell_of_row _ _ 5 _ _ _ h.2.2.1⟩,gM h.2.2.1⟩
theorem NX.put {w wr:World} {R:Nat} {s:ByteArray} {b o:Nat} {c0 c1 c2 c3 c4 c5 d0 d1 d2 d3 d4 d5 v:Value} (h:NX w R s b c0 c1 c2 c3 c4 c5 wr) (hs:(#[c0,c1,c2,c3,c4,c5]:Array Value).setIfInBounds o v=#[d0,d1,d2,d3,d4,d5]):NX w R s b d0 d1 d2 d3 d4 d5 (wr.setCell ⟨w.heap.size+1,o,none⟩ v):=by
 obtain ⟨h1,h2,h3,h4,h5⟩:=h;refine ⟨?_,?_,?_,dd h4 (by omega) v,h5⟩
 ·unfold Rd at h1 ⊢;exact dd h1 (by omega) v
 ·exact cJ h2 (grown_setB _ _ _ _) (fun k hk=>.inr (by injection hk with hk;omega))
 ·rw [heap_setCell_same _ _ _ _ _ _ h3,hs]
where
 grown_setB (W:World) (b o:Nat) (x:Value):W.grownBy (W.setCell ⟨b,o,none⟩ x) (some b) :=
  ⟨rfl,rfl,rfl,by simp,fun k hk hne=>by
   have hk2:b≠k:=fun e=>hne (by rw [e])
   simp only [World.setCell,Array.getElem?_modify,if_neg hk2]⟩
theorem jn {w:World} {B k:Nat} {cs c2:Array Value} {t:TypeId} {fr:Nat×Nat} (h:w.heap[k]? = some (.cells cs t fr)) (hne:B≠k):(w.setRow B c2).heap[k]? = some (.cells cs t fr):=by
 simp only [World.setRow,Array.getElem?_modify]
 rw [if_neg hne];exact h
theorem NX.row {w wr:World} {R:Nat} {s:ByteArray} {b:Nat} {c0 c1 c2 c3 c4 c5 d0 d1 d2 d3 d4 d5:Value} (h:NX w R s b c0 c1 c2 c3 c4 c5 wr):NX w R s b d0 d1 d2 d3 d4 d5 (wr.setRow (w.heap.size+1) #[d0,d1,d2,d3,d4,d5]):=by
 obtain ⟨h1,h2,h3,h4,h5⟩:=h;exact ⟨h1.row (by omega) _,gP h2 (by omega) _,cA h3 _,jn h4 (by omega),h5⟩
def wu (w:World) (R:Nat) (s:ByteArray) (r:(Nat×Nat) ⊕ (Nat×Wr×Nat)) (e:Ending) (w':World):Prop :=
 w.grownBy w' (some R)∧((∃ x p,r=.inl (x,p)∧eh (x,(p:Int)) e w')∨∃ b x n,r=.inr (b,x,n)∧e=.returned (.tuple #[.agg #[.int .i64 x.time,.int .i64 x.rep,.int .i64 x.kind,.string x.key,.string x.value,.int .i64 x.n],.int .i64 (n:Int)])∧Rd w' R s b)
theorem BD (R:Nat) (s:ByteArray) (a:Nat) (vh vt:Value) (h:List Ent) (T:List ByteArray) (A:Int) (w:World) (hrd:Rd w R s a) (hg:errT w) (hs:s.size≤20000) (ha:a≤s.size) (hh:ag w (R+1) vh h) (ht:ai w (R+1) vt T) (hhl:h.length≤16) (htl:T.length≤60) (hts:∀ k∈T,k.size≤2000) (hA0:0≤A) (hA1:A≤1099511627776) :
 Calls Tryz.prog 190 #[.pointer (some ⟨R,0,none⟩),vh,vt,.int .i64 A] w (wu w R s (br s.data.toList h T a A)):=by
 have hmf:∀ (fn:Fn) (first cap:Array Value) (w:World),(Instr.makeFunc fn first cap).run Tryz.prog w=.ok (.func fn first cap) w:=fun _ _ _ _=>rfl
 have HS6:Hid (s.size≤1000000):=hid (by omega);have HSL:Hid (s.data.toList.length=s.size):=hid (aj s).symm;have hR:R<w.heap.size:=hrd.cells.2.2.2;obtain ⟨W1,hW1⟩:∃ W1,(w.alloc (.cells #[.int .i64 0,.int .i64 0,.int .i64 0,.string ⟨#[]⟩,.string ⟨#[]⟩,.int .i64 0] 38)).alloc (.cells #[.int .i64 0,.int .i64 0,.int .i64 0,.string ⟨#[]⟩,.string ⟨#[]⟩,.int .i64 0] 38)=W1:=⟨_,rfl⟩;have hb1:Below w.heap.size w W1:=by rw [←hW1];exact ((Below.refl _ _).alloc (Nat.le_refl _) _).alloc (by simp) _
 have HN1:Hid (NX w R s a (.int .i64 0) (.int .i64 0) (.int .i64 0) (.string ⟨#[]⟩) (.string ⟨#[]⟩) (.int .i64 0) W1):=hid ⟨hrd.below hb1,fC hb1,by rw [←hW1];have h:=heap_alloc_new (w.alloc (.cells #[.int .i64 0,.int .i64 0,.int .i64 0,.string ⟨#[]⟩,.string ⟨#[]⟩,.int .i64 0] 38)) (.cells #[.int .i64 0,.int .i64 0,.int .i64 0,.string ⟨#[]⟩,.string ⟨#[]⟩,.int .i64 0] 38);simpa using h,by rw [←hW1,Below.heap_alloc _ _ _ (by simp)];exact heap_alloc_new w _,hR⟩;have HEG:Hid (∀ w',w.grownBy w' (some R)→errT w'):=hid (fun w' hg'=>hg.grownR hrd hg');have HHE:Hid (∀ w',w.grownBy w' (some R)→ag w' (R+1) vh h):=hid (fun w' hg'=>CE hh (Nat.lt_succ_self R) hg');have HTE:Hid (∀ w',w.grownBy w' (some R)→ai w' (R+1) vt T):=hid (fun w' hg'=>td ht (Nat.lt_succ_self R) hg');obtain ⟨nh,hnh⟩:∃ n,n=h.length:=⟨_,rfl⟩;obtain ⟨nt,hnt⟩:∃ n,n=T.length:=⟨_,rfl⟩;obtain ⟨ah,ch,rfl,_⟩:=hh.is.form;obtain ⟨at_,ct,rfl,_,_⟩:=ht.isTexts;rw [←hnh] at HHE hhl ⊢;rw [←hnt] at HTE htl ⊢;have HNH:=hid hnh;have HNT:=hid hnt;have HTS:=hid hts;have kh:IntKind.i64.wrap ((nh:Int)-1)=(nh:Int)-1:=IntWalk.i64_in _ (by omega);have kt:IntKind.i64.wrap ((nt:Int)-1)=(nt:Int)-1:=IntWalk.i64_in _ (by omega)
 obtain ⟨mo,hmo⟩:∃ mo,1099511627776-A=mo:=⟨_,rfl⟩;have km:IntKind.i64.wrap (1099511627776-A)=mo:=by rw [←hmo];exact IntWalk.i64_in _ (by omega)
 have hmo0:0≤mo:=by omega
 have hmo1:mo≤1099511627776:=by omega
 have HMO:=hid hmo;clear hh ht hnh hnt hts hrd hg hb1 hmo;rcases sf (s.data.toList.drop a) with ⟨e,hk,he⟩ | ⟨c,rr,hc,hk,hc1,hc4⟩
 ·have HK:=hid hk;have HRES:=hid (uF (h:=h) (T:=T) (ahead:=A) hk he);clear hk;go_enter Tryz.func190,Tryz.ntmps190
  go_wp2_with fail
  refine (zH R s a e 0 _ HN1.out.1 (HEG.out _ HN1.out.2.1) HS6.out ha HK.out rfl he).mono ?_;rintro r w2 ⟨⟨t,u,rfl,hne,hat⟩,hg2⟩;exact And.intro rfl ⟨cJ HN1.out.2.1 hg2 (fun k hk=>.inl (by injection hk with hk;exact hk.symm)),.inl ⟨e,a,HRES.out,t,u,rfl,hne,hat⟩⟩
 ·have hal : a + 1 ≤ s.size := by
   rcases Nat.lt_or_ge a s.data.toList.length with h' | h'
   ·have:=HSL.out;omega
   ·rw [List.drop_of_length_le h'] at hc;cases hc
  obtain ⟨K,hKn⟩:∃ K,c.toNat=K:=⟨_,rfl⟩;rw [hKn] at hk hc1 hc4;have HK:=hid hk;clear hc hk hKn;go_enter Tryz.func190,Tryz.ntmps190
  go_wp2_with fail
  refine (zI R s a K 1 _ HN1.out.1 (HEG.out _ HN1.out.2.1) HS6.out ha HK.out (by decide)).mono ?_;rintro r w2 ⟨rfl,hr2,hg2⟩;have HN2:=hid (HN1.out.get hr2 hg2);have HN3:Hid (NX w R s (a+1) (.int .i64 0) (.int .i64 0) (.int .i64 (K:Int)) (.string ⟨#[]⟩) (.string ⟨#[]⟩) (.int .i64 0) (w2.setCell ⟨w.heap.size+1,2,none⟩ (.int .i64 (K:Int)))):=hid (HN2.out.put rfl);obtain ⟨⟨c0,c1,c2,c3,c4,c5⟩,z0,z1,z2,z3,z4,z5⟩:=HN2.out.cells;clear hr2 hg2 HN1;obtain ⟨a1,ha1⟩:∃ a1,a+1=a1:=⟨_,rfl⟩;rw [ha1] at HN3 hal;have HA1:=hid ha1;rcases ba (s.data.toList.drop a1) mo with ⟨e,h1,he,_⟩ | ⟨t,k1,h1,htt,hk11,hk110,hk1l,hp1⟩
  ·have HRES:Hid (br s.data.toList h T a A=.inl (e,a1)):=hid (by rw [←ha1];exact uI HK.out (by rw [ha1,HMO.out];exact h1) he);have H1:=hid h1;clear h1 ha1;go_wp2_with fail
   refine (jb R s a1 e mo _ HN3.out.1 (HEG.out _ HN3.out.2.1) HS6.out hal (by omega) (by omega) H1.out he).mono ?_;rintro r w4 ⟨⟨t,u,rfl,hne,hat⟩,hg4⟩;exact And.intro rfl ⟨cJ HN3.out.2.1 hg4 (fun k hk=>.inl (by injection hk with hk;exact hk.symm)),.inl ⟨e,a1,HRES.out,t,u,rfl,hne,hat⟩⟩
  ·have H1:=hid h1;have hk1s:a1+k1≤s.size:=by rw [List.length_drop,HSL.out] at hk1l;omega
   obtain ⟨Ti,hTi⟩:∃ Ti,A+(t:Int)=Ti:=⟨_,rfl⟩;have kT:IntKind.i64.wrap (A+(t:Int))=Ti:=by rw [←hTi];exact IntWalk.i64_in _ (by have:=HMO.out;omega)
   have hTi1:Ti≤1099511627776:=by have:=HMO.out;omega
   have HTI:=hid hTi;obtain ⟨a2,ha2⟩:∃ a2,a1+k1=a2:=⟨_,rfl⟩;clear h1 hp1 hk1l ha1 hTi;go_wp2_with fail
   refine (jc R s a1 t k1 mo _ HN3.out.1 (HEG.out _ HN3.out.2.1) HS6.out hal (by omega) (by omega) H1.out (by omega)).mono ?_;rintro r w4 ⟨rfl,hr4,hg4⟩;rw [ha2] at hr4 hk1s;have HA2:=hid ha2;have HN4:=hid (HN3.out.get hr4 hg4);have HN5:Hid (NX w R s a2 (.int .i64 Ti) (.int .i64 0) (.int .i64 (K:Int)) (.string ⟨#[]⟩) (.string ⟨#[]⟩) (.int .i64 0) (w4.setCell ⟨w.heap.size+1,0,none⟩ (.int .i64 Ti))):=hid (HN4.out.put rfl);clear c0 c1 c2 c3 c4 c5 z0 z1 z2 z3 z4 z5 hr4 hg4 HN2 HN3 ha2;obtain ⟨⟨c0,c1,c2,c3,c4,c5⟩,z0,z1,z2,z3,z4,z5⟩:=HN4.out.cells;rcases ba (s.data.toList.drop a2) ((nh:Int)-1) with ⟨e,h2,he,_⟩ | ⟨p,k2,h2,hpp,hk21,hk210,hk2l,hp2⟩
   ·have HRES:Hid (br s.data.toList h T a A=.inl (e,a2)):=hid (by rw [←HA2.out,←HA1.out];exact uH HK.out (by rw [HA1.out,HMO.out];exact H1.out) (by rw [HA1.out,HA2.out,←HNH.out];exact h2) he);have H2:=hid h2;clear h2;go_wp2_with fail
    refine (jb R s a2 e ((nh:Int)-1) _ HN5.out.1 (HEG.out _ HN5.out.2.1) HS6.out hk1s (by omega) (by omega) H2.out he).mono ?_;rintro r w6 ⟨⟨t,u,rfl,hne,hat⟩,hg6⟩;exact And.intro rfl ⟨cJ HN5.out.2.1 hg6 (fun k hk=>.inl (by injection hk with hk;exact hk.symm)),.inl ⟨e,a2,HRES.out,t,u,rfl,hne,hat⟩⟩
   ·have H2:=hid h2;have hk2s:a2+k2≤s.size:=by rw [List.length_drop,HSL.out] at hk2l;omega
    have hpn:p<nh:=by omega
    obtain ⟨ep, hep⟩ : ∃ e, h[p]? = some e := ⟨h[p]'(by have := HNH.out; omega), List.getElem?_eq_getElem _⟩;have hgd:h.getD p ⟨0,0⟩=ep:=by rw [List.getD_eq_getElem?_getD,hep];rfl
    have HGD:=hid hgd;have HEP:=hid hep;obtain ⟨a3,ha3⟩:∃ a3,a2+k2=a3:=⟨_,rfl⟩;clear h2 hp2 hk2l hgd hep;go_wp2_with fail
    refine (jc R s a2 p k2 ((nh:Int)-1) _ HN5.out.1 (HEG.out _ HN5.out.2.1) HS6.out hk1s (by omega) (by omega) H2.out (by omega)).mono ?_;rintro r w6 ⟨rfl,hr6,hg6⟩;rw [ha3] at hr6 hk2s;have HA3:=hid ha3;have HN6:=hid (HN5.out.get hr6 hg6);obtain ⟨rp,trp⟩:=ep;have HN7:Hid (NX w R s a3 (.int .i64 Ti) (.int .i64 rp) (.int .i64 (K:Int)) (.string ⟨#[]⟩) (.string ⟨#[]⟩) (.int .i64 0) (w6.setCell ⟨w.heap.size+1,1,none⟩ (.int .i64 rp))):=hid (HN6.out.put rfl);obtain ⟨a',c',he',hfo⟩:=(HHE.out _ HN6.out.2.1).is.form;obtain ⟨rfl,hmm,rfl⟩:=Value.slice.inj he';obtain ⟨bh,oh,rfl,_,q0,q1⟩:=hfo p _ HEP.out;dsimp only at q0 q1
    clear c0 c1 c2 c3 c4 c5 z0 z1 z2 z3 z4 z5 hr6 hg6 HN4 HN5 ha3 he' hmm hfo;obtain ⟨⟨c0,c1,c2,c3,c4,c5⟩,z0,z1,z2,z3,z4,z5⟩:=HN6.out.cells;have hp0:(0:Int)≤(p:Int):=by omega
    have hp1:(p:Int)<(nh:Int):=by omega
    rcases ba (s.data.toList.drop a3) ((nt:Int)-1) with ⟨e,h3,he,_⟩ | ⟨n,k3,h3,hnn,hk31,hk310,hk3l,hp3⟩
    ·have HRES:Hid (br s.data.toList h T a A=.inl (e,a3)):=hid (by rw [←HA3.out,←HA2.out,←HA1.out];exact uE HK.out (by rw [HA1.out,HMO.out];exact H1.out) (by rw [HA1.out,HA2.out,←HNH.out];exact H2.out) (by rw [HA1.out,HA2.out,HA3.out,←HNT.out];exact h3) he);have H3:=hid h3;clear h3;go_wp2_with fail
     refine (jb R s a3 e ((nt:Int)-1) _ HN7.out.1 (HEG.out _ HN7.out.2.1) HS6.out hk2s (by omega) (by omega) H3.out he).mono ?_;rintro r w8 ⟨⟨t,u,rfl,hne,hat⟩,hg8⟩;exact And.intro rfl ⟨cJ HN7.out.2.1 hg8 (fun k hk=>.inl (by injection hk with hk;exact hk.symm)),.inl ⟨e,a3,HRES.out,t,u,rfl,hne,hat⟩⟩
    ·have H3:=hid h3;have hk3s:a3+k3≤s.size:=by rw [List.length_drop,HSL.out] at hk3l;omega
     obtain ⟨key, hkey⟩ : ∃ k, T[n]? = some k := ⟨T[n]'(by have := HNT.out; omega), List.getElem?_eq_getElem _⟩;have hgk:T.getD n ⟨#[]⟩=key:=by rw [List.getD_eq_getElem?_getD,hkey];rfl
     have hks:=HTS.out key (List.mem_of_getElem? hkey);have HGK:=hid hgk;have HKY:=hid hkey;obtain ⟨a4,ha4⟩:∃ a4,a3+k3=a4:=⟨_,rfl⟩;have hnt1:(n:Int)<(nt:Int):=by omega
     have hn0:(0:Int)≤(n:Int):=by omega
     clear h3 hp3 hk3l hgk hkey;go_wp2_with fail
     refine (jc R s a3 n k3 ((nt:Int)-1) _ HN7.out.1 (HEG.out _ HN7.out.2.1) HS6.out hk2s (by omega) (by omega) H3.out (by omega)).mono ?_;rintro r w8 ⟨rfl,hr8,hg8⟩;rw [ha4] at hr8 hk3s;have HA4:=hid ha4;have HN8:=hid (HN7.out.get hr8 hg8);have HN9:Hid (NX w R s a4 (.int .i64 Ti) (.int .i64 rp) (.int .i64 (K:Int)) (.string key) (.string ⟨#[]⟩) (.int .i64 0) (w8.setCell ⟨w.heap.size+1,3,none⟩ (.string key))):=hid (HN8.out.put rfl);obtain ⟨a',c',he',_,hfo⟩:=(HTE.out _ HN8.out.2.1).isTexts;obtain ⟨rfl,hmm,rfl⟩:=Value.slice.inj he';obtain ⟨bt,ot,rfl,_,q2⟩:=hfo n _ HKY.out;clear c0 c1 c2 c3 c4 c5 z0 z1 z2 z3 z4 z5 hr8 hg8 HN6 HN7 ha4 he' hmm hfo q0 q1;obtain ⟨⟨c0,c1,c2,c3,c4,c5⟩,z0,z1,z2,z3,z4,z5⟩:=HN8.out.cells;obtain ⟨x,hx⟩:∃ x,aH Ti rp (K:Int) key (s.data.toList.drop a4)=x:=⟨_,rfl⟩;have HX:=hid hx;by_cases hx0:x=0
     ·subst hx0;obtain ⟨V,hV⟩:∃ V,cy (K:Int) (s.data.toList.drop a4)=V:=⟨_,rfl⟩;obtain ⟨N,hN⟩:∃ N,(getN (K:Int) (s.data.toList.drop a4)).1=N:=⟨_,rfl⟩;obtain ⟨k4,hk4⟩:∃ k,cH (K:Int) (s.data.toList.drop a4)=k:=⟨_,rfl⟩;have hk4s:=(kC hx).2.2;rw [hk4,List.length_drop,HSL.out] at hk4s;have HRES:Hid (br s.data.toList h T a A=.inr (a4+k4,⟨Ti,rp,(K:Int),key,V,N⟩,n)):=hid (by
       have hok:=oX (h:=h) (T:=T) (ahead:=A) HK.out (by rw [HA1.out,HMO.out];exact H1.out) (by rw [HA1.out,HA2.out,←HNH.out];exact H2.out) (by rw [HA1.out,HA2.out,HA3.out,←HNT.out];exact H3.out) (by rw [HA1.out,HA2.out,HA3.out,HA4.out,HTI.out,HGD.out,HGK.out];exact HX.out);rw [HA1.out,HA2.out,HA3.out,HA4.out,HTI.out,HGD.out,HGK.out,hV,hN,hk4] at hok;exact hok)
      have HV:=hid hV;have HNN:=hid hN;have HK4:=hid hk4;clear hx hV hN hk4;go_wp2_with fail
      refine (zO R (w.heap.size+1) s a4 Ti rp (K:Int) key ⟨#[]⟩ 0 V N k4 _ HN9.out.1 (HEG.out _ HN9.out.2.1) HS6.out hk3s HN9.out.cells.1 (by omega) HX.out HV.out HNN.out HK4.out (by omega)).mono ?_;rintro r w10 ⟨rfl,hr10,hg10⟩;have HN10:=hid (HN9.out.get hr10 hg10);have HN11:Hid (NX w R s (a4+k4) (.int .i64 Ti) (.int .i64 rp) (.int .i64 (K:Int)) (.string key) (.string V) (.int .i64 N) (w10.setRow (w.heap.size+1) #[.int .i64 Ti,.int .i64 rp,.int .i64 (K:Int),.string key,.string V,.int .i64 N])):=hid HN10.out.row;have HI:=hid (eR (.int .i64 Ti) (.int .i64 rp) (.int .i64 (K:Int)) (.string key) (.string V) (.int .i64 N));have HONE:=hid (eQ Ti rp (K:Int) key V N);have HSAME:=hid (fj Ti rp (K:Int) key V N);have HSAM2:Hid ((#[.int .i64 Ti,.int .i64 rp,.int .i64 (K:Int),.string key,.string ⟨#[]⟩,.int .i64 0]:Array Value).size=(#[.int .i64 Ti,.int .i64 rp,.int .i64 (K:Int),.string key,.string V,.int .i64 N]:Array Value).size):=hid rfl;have HROWA:=hid HN10.out.2.2.1;have HROWB:=hid HN11.out.2.2.2.1;have HZR:=hid (cA HN11.out.2.2.2.1 #[.int .i64 Ti,.int .i64 rp,.int .i64 (K:Int),.string key,.string V,.int .i64 N]);have HRD:=hid (HN11.out.1.row (show w.heap.size≠R by omega) #[.int .i64 Ti,.int .i64 rp,.int .i64 (K:Int),.string key,.string V,.int .i64 N])
      have HGR:=hid (gP HN11.out.2.1 (Nat.le_refl _) #[.int .i64 Ti,.int .i64 rp,.int .i64 (K:Int),.string key,.string V,.int .i64 N]);obtain ⟨⟨d0,d1,d2,d3,d4,d5⟩,_⟩:=HN11.out.cells;clear hr10 hg10 c0 c1 c2 c3 c4 c5 z0 z1 z2 z3 z4 z5 q2 HN8 HN9;go_wp2_with (first
       | (with_reducible refine wpList_store_row rfl _ _ _ rfl _ _ rfl rfl _ _ HROWA.out HI.out HSAM2.out HONE.out ?_)
       | (with_reducible refine wpList_store_row rfl _ _ _ rfl _ _ rfl rfl _ _ HROWB.out HI.out HSAME.out HONE.out ?_))
      obtain ⟨g0,g1,g2,g3,g4,g5⟩:=bZ HZR.out;refine bodyPost_ret (v:=.tuple #[.agg #[.int .i64 Ti,.int .i64 rp,.int .i64 (K:Int),.string key,.string V,.int .i64 N],.int .i64 (n:Int)]) (by simp [results,Tryz.results190,go_sem,g0,g1,g2,g3,g4,g5]) rfl ?_;exact ⟨HGR.out,.inr ⟨_,_,_,HRES.out,rfl,HRD.out⟩⟩
     ·have HRES : Hid (br s.data.toList h T a A = .inl (x, a4)) := hid (by
       have hok:=uD (h:=h) (T:=T) (ahead:=A) HK.out (by rw [HA1.out,HMO.out];exact H1.out) (by rw [HA1.out,HA2.out,←HNH.out];exact H2.out) (by rw [HA1.out,HA2.out,HA3.out,←HNT.out];exact H3.out) (by rw [HA1.out,HA2.out,HA3.out,HA4.out,HTI.out,HGD.out,HGK.out];exact HX.out) hx0;rw [HA1.out,HA2.out,HA3.out,HA4.out] at hok;exact hok)
      clear hx;go_wp2_with fail
      refine (zN R (w.heap.size+1) s a4 Ti rp (K:Int) key ⟨#[]⟩ 0 x _ HN9.out.1 (HEG.out _ HN9.out.2.1) HS6.out hk3s HN9.out.cells.1 (by omega) HX.out hx0).mono ?_;rintro r w10 ⟨⟨t,u,rfl,hne,hat⟩,hg10⟩;exact And.intro rfl ⟨cJ HN9.out.2.1 hg10 (fun k hk=>.inl (by injection hk with hk;exact hk.symm)),.inl ⟨x,a4,HRES.out,t,u,rfl,hne,hat⟩⟩
end
