import Derived.Test.YtdhognaoejiglaaGreatDoorKb19
namespace Go.Proofs.YtdhognaoejiglaaGreatDoor
open Lib (hid)
set_option maxRecDepth 100000
set_option maxHeartbeats 8000000
section
open Go.RowKit
theorem q7 (v:Value) (l:List Ent) (w:World) (hv:ae w v l) (h0:l≠[]) (hl:l.length≤1000000) (hr:∀ e∈l,0≤e.rep∧e.rep≤1000000) :
 Calls Tryz.prog 172 #[v] w fun r w'=>r=.returned (.int .i64 ((l.getLastD ⟨0,0⟩).rep+2))∧w=w':=by
 have hlen:0<l.length:=List.length_pos_iff.2 h0;obtain ⟨a1,c1,rfl,f1⟩:=hv.form;have ht:l[l.length-1]? = some (l.getLastD ⟨0,0⟩):=by
  rw [←List.getLast?_eq_getElem?];cases l with
  | nil=>exact absurd rfl h0
  | cons e t=>simp [List.getLast?_cons]
 obtain ⟨b1,o1,rfl,_,p0,_⟩:=f1 _ _ ht;have hm:=hr _ (List.mem_of_getElem? ht);generalize l.getLastD ⟨0,0⟩=e at *;obtain ⟨rep,time⟩:=e;simp only at p0 hm ⊢
 obtain ⟨n,hn⟩:∃ n,n=l.length:=⟨_,rfl⟩;rw [←hn] at hl hlen p0 ⊢;obtain ⟨j,hj⟩:∃ j,j=n-1:=⟨_,rfl⟩;rw [←hj] at p0;have hj1:(n:Int)-1=(j:Int):=by omega
 have hj2:j<n:=by omega
 clear hv f1 hn ht hr h0 hj;go_enter Tryz.func172,Tryz.ntmps172
 go_wp2;go_ret;exact ⟨rfl,rfl⟩
def wg (w:World) (u:Value) (l:List Ent) (rs:List (List Ent)) (e:Ending) (w':World):Prop :=
 ∃ v vs,e=.returned v∧cz w' w.heap.size v vs∧(∀ W,ae W u l→areE W vs rs)∧vs.length=rs.length∧Below w.heap.size w w'
theorem yI (v:Value) (l:List Ent) (w:World) (hv:ae w v l) (hl:l.length≤100000) (hr:∀ e∈l,0≤e.rep∧e.rep≤1000000) :
 Calls Tryz.prog 171 #[v] w (wg w v l (aV l)):=by
 by_cases hz:l.length=0
 ·obtain rfl:=List.length_eq_zero_iff.1 hz;obtain ⟨a1,c1,rfl,_⟩:=hv.form;have HR:Hid (aV ([]:List Ent)=[]):=rfl;rw [HR.out];clear hv hl hr hz;go_enter Tryz.func171,Tryz.ntmps171
  go_wp2;refine wp_loop_rounds 1 ?_;rw [rounds_succ];go_wp2;go_ret;exact ⟨_,[],rfl,tk _ _,fun _ _=>trivial,rfl,Below.refl _ _⟩
 ·obtain ⟨b,off,c,rfl,hlc,hb,hcells⟩:=hv.lies (by omega);have HC:=hid hcells;obtain ⟨a1,c1,hav,f1⟩:=hv.form;simp only [Value.slice.injEq,true_and] at hav
  obtain ⟨rfl,rfl⟩:=hav;have F1:=hid f1;have HR:=hid hr;obtain ⟨n,hn⟩:∃ n,n=l.length:=⟨_,rfl⟩;rw [←hn] at hl hlc hz ⊢ hv;have HV:=hid hv;have HN:=hid hn;have HLC:=hid hlc;clear hv f1 hn hcells hr;go_enter Tryz.func171,Tryz.ntmps171
  go_wp2
  go_loopw [3,4,8] (fun rv fv i wr=>∃ (k fr:Nat) (vs:List Value) (R:List (List Ent)),k≤n∧i=.int .i64 k∧fv=.int .i64 fr∧fr≤k∧vs.length≤k∧R++cutA ((l.take k).drop fr) (l.drop k)=aV l∧cz wr w.heap.size rv vs∧(∀ W,ae W (.slice (some ⟨b,off,none⟩) n c) l→areE W vs R)∧Below w.heap.size w wr) (fun _ _ i _=>n-(intOf i).toNat)
  case atStart=>exact ⟨0,0,[],[],by omega,rfl,rfl,by omega,Nat.le_refl _,rfl,tk _ _,(fun _ _=>trivial),Below.refl _ _⟩
  case round =>
   obtain ⟨k,fr,vs,R,hk,rfl,rfl,hfr,hvs,heq,hown,hare,hbel⟩:=hrel;have HEQ:=hid heq;have HO:=hid hown;have HA:=hid hare;have HB:=hid hbel;have hzr:=hbel.size;clear heq hown hare hbel;by_cases hlt:k<n
   ·have hkl:k<l.length:=by have:=HN.out;omega
    obtain ⟨t,ht⟩:∃ t,l[k]? = some t:=⟨l[k],List.getElem?_eq_getElem hkl⟩;have hd:l.drop k=t::l.drop (k+1):=by
     rw [List.drop_eq_getElem_cons hkl];congr 1;rw [List.getElem?_eq_getElem hkl] at ht;exact Option.some.inj ht
    have htk:l.take (k+1)=l.take k++[t]:=by
     rw [List.take_succ_eq_append_getElem hkl];congr 2;rw [List.getElem?_eq_getElem hkl] at ht;exact Option.some.inj ht
    have hcur:(l.take (k+1)).drop fr=(l.take k).drop fr++[t]:=by
     rw [htk,List.drop_append_of_le_length (by rw [List.length_take];omega)]
    obtain ⟨b1,o1,hbo,_,p0,_⟩:=F1.out k t ht;simp only [Option.some.injEq,Addr.mk.injEq,and_true] at hbo
    obtain ⟨rfl,rfl⟩:=hbo;have hm:=HR.out t (List.mem_of_getElem? ht);have q0:=(HB.out.cell (p:=⟨b,off+k * 2,none⟩) hb).trans p0;obtain ⟨k1,hk1⟩:∃ k1,k1=k+1:=⟨_,rfl⟩;rw [←hk1] at hd htk hcur;have hfk:fr<k1:=by omega
    have hfk':(fr:Int)≤(k1:Int):=by omega
    have hkc:k1≤c:=by have:=HLC.out;omega
    have hkc':(k1:Int)≤(c:Int):=by omega
    have HP:Hid (∀ W,ae W (.slice (some ⟨b,off,none⟩) n c) l→ae W (.slice (some ⟨b,off+fr * 2,none⟩) (k1-fr) (c-fr)) ((l.take k1).drop fr)):=hid (show ∀ W,ae W (.slice (some ⟨b,off,none⟩) n c) l→ae W (.slice (some ⟨b,off+fr * 2,none⟩) (k1-fr) (c-fr)) ((l.take k1).drop fr) from fun W hW=>by
     obtain ⟨b',off',c',hv',hc',hb',hcs'⟩:=hW.lies (by omega);simp only [Value.slice.injEq,Option.some.injEq,Addr.mk.injEq,and_true] at hv'
     obtain ⟨⟨rfl,rfl⟩,_,rfl⟩:=hv';exact ae.part hcs' hb' fr k1 (by have:=HN.out;omega) hfk rfl (by omega))
    by_cases hlast:k1=n
    ·subst hlast;have hdn:l.drop k1=[]:=List.drop_eq_nil_of_le (by have:=HN.out;omega);have hcl:cutA ((l.take k).drop fr) (l.drop k)=[(l.take k1).drop fr]:=by
      rw [hd,hdn,qF,hcur]
     have HS:Hid ((R++[(l.take k1).drop fr])++cutA ((l.take k1).drop k1) (l.drop k1)=aV l):=hid (show (R++[(l.take k1).drop fr])++cutA ((l.take k1).drop k1) (l.drop k1)=aV l by
      rw [←HEQ.out,hcl,hdn];have:∀ cur,cutA cur []=[]:=fun _=>rfl
      rw [this,List.append_nil])
     have hw1:(k:Int)+1=(k1:Int):=by omega
     have hw2:IntKind.i64.wrap ((k:Int)+1)=(k1:Int):=by rw [hw1];exact IntWalk.i64_in _ (by omega)
     have hw3:IntKind.i64.wrap (t.rep+1)=t.rep+1:=IntWalk.i64_in _ (by omega);have HK1:=hid hk1;clear hcl hcur htk hd ht p0 hm hk1 hdn;go_wp2
     go_quiet (fail)
     clear hw2 hw3;go_wp2_with (at_builtin;refine wpList_append_run rfl _ _ rfl w.heap.size _ vs rfl ((HO.out.drewN _).alloc _) ⟨wr.heap.size,0,none⟩ 1 rfl (.slice (some ⟨b,off+fr * 2,none⟩) (k1-fr) (c-fr)) ⟨_,_,_,rfl⟩ ?c1 ?c2 ?c3 ?_)
     case c1=>simp [Addr.add];exact cell_of_row _ _ 0 _ _ (0,0) (heap_alloc_new (World.drewN wr _) _)
     case c2=>omega
     case c3=>simp;omega
     ·intro g cap w2 ho2 hg2;have HB2:Hid (Below w.heap.size w w2):=(((below_drewN HB.out _).alloc (by simp;omega) _).grown hg2 (by simp;omega) (fun g hg=>(HO.out.lt g hg).1));have HO2:=hid ho2;have HA2:Hid (∀ W,ae W (.slice (some ⟨b,off,none⟩) k1 c) l→areE W (vs++[(.slice (some ⟨b,off+fr * 2,none⟩) (k1-fr) (c-fr):Value)]) (R++[(l.take k1).drop fr])):=hid (fun W hW=>pS (HP.out W hW) (HA.out W hW));obtain ⟨vs2,hvs2⟩:∃ vs2,vs++[(.slice (some ⟨b,off+fr * 2,none⟩) (k1-fr) (c-fr):Value)]=vs2:=⟨_,rfl⟩;have hvl:vs2.length=vs.length+1:=by rw [←hvs2];simp
      rw [hvs2] at HO2 HA2;rw [←hvl] at HO2 ⊢;clear ho2 hg2 hvs2;go_wp2;go_roundw
      case rel=>exact ⟨k1,k1,vs2,_,by omega,by first | rfl | go_num,by first | rfl | go_num,Nat.le_refl _,by have:=HK1.out;omega,HS.out,HO2.out,HA2.out,HB2.out⟩
      case measure=>have:=HK1.out;simp [intOf];omega
    ·have hk1l:k1<l.length:=by have:=HN.out;omega
     obtain ⟨d,hdd⟩:∃ d,l[k1]? = some d:=⟨l[k1],List.getElem?_eq_getElem hk1l⟩;have hd1:l.drop k1=d::l.drop (k1+1):=by
      rw [List.drop_eq_getElem_cons hk1l];congr 1;rw [List.getElem?_eq_getElem hk1l] at hdd;exact Option.some.inj hdd
     obtain ⟨b1,o1,hbo,_,p1,_⟩:=F1.out k1 d hdd;simp only [Option.some.injEq,Addr.mk.injEq,and_true] at hbo
     obtain ⟨rfl,rfl⟩:=hbo;have q1:=(HB.out.cell (p:=⟨b,off+k1 * 2,none⟩) hb).trans p1;have hk1n:k1<n:=by omega
     have hk1n':(k1:Int)<(n:Int):=by omega
     have hn1:((k1:Int) == (n:Int))=false:=by simp;omega
     by_cases hgp:t.rep+1<d.rep
     ·have hcl : cutA ((l.take k).drop fr) (l.drop k) = (l.take k1).drop fr :: cutA [] (l.drop k1) := by
       rw [hd,hd1,mQ hgp,hcur]
      have HS:Hid ((R++[(l.take k1).drop fr])++cutA ((l.take k1).drop k1) (l.drop k1)=aV l):=hid (show (R++[(l.take k1).drop fr])++cutA ((l.take k1).drop k1) (l.drop k1)=aV l by
       rw [←HEQ.out,hcl,List.drop_eq_nil_of_le (show (l.take k1).length≤k1 by rw [List.length_take];omega)];simp)
      have hw1:(k:Int)+1=(k1:Int):=by omega
      have hw2:IntKind.i64.wrap ((k:Int)+1)=(k1:Int):=by rw [hw1];exact IntWalk.i64_in _ (by omega)
      have hw3:IntKind.i64.wrap (t.rep+1)=t.rep+1:=IntWalk.i64_in _ (by omega);have HK1:=hid hk1;clear hcl hcur htk hd ht p0 hm hk1 p1 hdd hd1;go_wp2
      go_quiet (fail)
      clear hw2 hw3;go_wp2_with (at_builtin;refine wpList_append_run rfl _ _ rfl w.heap.size _ vs rfl ((HO.out.drewN _).alloc _) ⟨wr.heap.size,0,none⟩ 1 rfl (.slice (some ⟨b,off+fr * 2,none⟩) (k1-fr) (c-fr)) ⟨_,_,_,rfl⟩ ?c1 ?c2 ?c3 ?_)
      case c1=>simp [Addr.add];exact cell_of_row _ _ 0 _ _ (0,0) (heap_alloc_new (World.drewN wr _) _)
      case c2=>omega
      case c3=>simp;omega
      ·intro g cap w2 ho2 hg2;have HB2:Hid (Below w.heap.size w w2):=(((below_drewN HB.out _).alloc (by simp;omega) _).grown hg2 (by simp;omega) (fun g hg=>(HO.out.lt g hg).1));have HO2:=hid ho2;have HA2:Hid (∀ W,ae W (.slice (some ⟨b,off,none⟩) n c) l→areE W (vs++[(.slice (some ⟨b,off+fr * 2,none⟩) (k1-fr) (c-fr):Value)]) (R++[(l.take k1).drop fr])):=hid (fun W hW=>pS (HP.out W hW) (HA.out W hW));obtain ⟨vs2,hvs2⟩:∃ vs2,vs++[(.slice (some ⟨b,off+fr * 2,none⟩) (k1-fr) (c-fr):Value)]=vs2:=⟨_,rfl⟩;have hvl:vs2.length=vs.length+1:=by rw [←hvs2];simp
       rw [hvs2] at HO2 HA2;rw [←hvl] at HO2 ⊢;clear ho2 hg2 hvs2;go_wp2;go_roundw
       case rel=>exact ⟨k1,k1,vs2,_,by omega,by first | rfl | go_num,by first | rfl | go_num,Nat.le_refl _,by have:=HK1.out;omega,HS.out,HO2.out,HA2.out,HB2.out⟩
       case measure=>have:=HK1.out;simp [intOf];omega
     ·have hcl : cutA ((l.take k).drop fr) (l.drop k) = cutA ((l.take k1).drop fr) (l.drop k1) := by
       rw [hd,hd1,mR hgp,hcur]
      have HS:Hid (R++cutA ((l.take k1).drop fr) (l.drop k1)=aV l):=hid (show R++cutA ((l.take k1).drop fr) (l.drop k1)=aV l by
       rw [←HEQ.out,hcl])
      have hgp':d.rep≤t.rep+1:=by omega
      have hw1:(k:Int)+1=(k1:Int):=by omega
      have hw2:IntKind.i64.wrap ((k:Int)+1)=(k1:Int):=by rw [hw1];exact IntWalk.i64_in _ (by omega)
      have hw3:IntKind.i64.wrap (t.rep+1)=t.rep+1:=IntWalk.i64_in _ (by omega);have HK1:=hid hk1;clear hcl hcur htk hd ht p0 hm hk1 p1 hdd hd1;go_wp2
      go_quiet (fail)
      clear hw2 hw3;go_wp2;go_roundw
      case rel=>exact ⟨k1,fr,vs,R,by omega,by first | rfl | go_num,rfl,by have:=HK1.out;omega,by have:=HK1.out;omega,HS.out,HO.out.drewN _,HA.out,below_drewN HB.out _⟩
      case measure=>have:=HK1.out;simp [intOf];omega
   ·have hkn:k=n:=by omega
    have HRE:Hid (R=aV l):=hid (show R=aV l by
     rw [←HEQ.out,List.drop_eq_nil_of_le (show l.length≤k by have:=HN.out;omega)];have:∀ cur,cutA cur []=[]:=fun _=>rfl
     rw [this,List.append_nil])
    obtain rfl:=HRE.out;go_wp2;go_ret;exact ⟨_,vs,rfl,HO.out,HA.out,xh (HA.out w HV.out),HB.out⟩
end
section
open Go.RowKit
def lW (T R K:Int) (key val:ByteArray) (N:Int):ByteArray×Nat:=if wriE T R K key val N=0 then (bc K val N,0) else (⟨#[]⟩,wriE T R K key val N)
theorem Ey {T R K:Int} {key val:ByteArray} {N:Int} (h:wriE T R K key val N≠0):lW T R K key val N=(⟨#[]⟩,wriE T R K key val N):=if_neg h
theorem oM {T R K:Int} {key val:ByteArray} {N:Int} (h:wriE T R K key val N=0):lW T R K key val N=(bc K val N,0):=if_pos h
theorem dS {e:Nat} (h:e≠0):errV e=.iface 68 (.int .i64 e):=by unfold errV;rw [if_neg h]
theorem pC {N:Int} (h0 : -1125899906842624≤N) (h1:N≤1125899906842624):0≤zigN N∧zigN N≤2251799813685249:=by unfold zigN;split <;> omega
theorem sI {K N:Int} (h:ci K N=true):(numB K N).size≤10:=by
 unfold numB;unfold ci at h;by_cases h3:K=3
 ·rw [if_pos h3] at h ⊢;simp only [Bool.and_eq_true,decide_eq_true_eq] at h
  have:=pC h.1 h.2;rw [cq];exact aI (by omega)
 ·rw [if_neg h3] at h ⊢;by_cases h4:K=4
  ·rw [if_pos h4] at h ⊢;simp only [Bool.and_eq_true,decide_eq_true_eq] at h
   rw [cq];exact aI (by omega)
  ·rw [if_neg h4];decide
theorem tP {s:ByteArray} (h:s.size≤300):(dK s).size≤310:=by
 rw [lS];have:=aI (n:=s.size) (by omega);omega
theorem G9 (T R K:Int) (key val:ByteArray) (N:Int) (w:World) (h:ci K N=true) :
 Calls Tryz.prog 152 #[.agg #[.int .i64 T,.int .i64 R,.int .i64 K,.string key,.string val,.int .i64 N]] w fun e w'=>e=.returned (.string (numB K N))∧Below w.heap.size w w':=by
 unfold numB;unfold ci at h;by_cases h3:K=3
 ·subst h3;rw [if_pos rfl] at h ⊢;simp only [Bool.and_eq_true,decide_eq_true_eq] at h
  obtain ⟨z0,z1⟩:=pC h.1 h.2;obtain ⟨n0,n1⟩:=h;go_enter Tryz.func152,Tryz.ntmps152
  go_wp2_with fail
  refine (GT N _ (by omega) (by omega)).mono ?_;rintro r w' ⟨rfl,rfl⟩;go_wp2_with fail
  refine (ls (zigN N) _ z0 (by omega)).mono ?_;rintro r w2 ⟨rfl,hb2⟩;have HB2:=hid (((Below.refl _ _).alloc (Nat.le_refl _) _).trans (hb2.mono (by simp)));clear hb2;go_wp2;go_ret;exact ⟨rfl,HB2.out⟩
 ·rw [if_neg h3] at h ⊢;have b1:(K == 3)=false:=by simpa using h3
  by_cases h4:K=4
  ·subst h4;rw [if_pos rfl] at h ⊢;simp only [Bool.and_eq_true,decide_eq_true_eq] at h
   obtain ⟨n0,n1⟩:=h;have hw:IntKind.u64.wrap N=N:=IntWalk.u64_in N ⟨by omega,by omega⟩;go_enter Tryz.func152,Tryz.ntmps152
   go_wp2_with fail
   refine (ls N _ n0 (by omega)).mono ?_;rintro r w2 ⟨rfl,hb2⟩;have HB2:=hid (((Below.refl _ _).alloc (Nat.le_refl _) _).trans (hb2.mono (by simp)));clear hb2;go_wp2;go_ret;exact ⟨rfl,HB2.out⟩
  ·rw [if_neg h4];have b4:(K == 4)=false:=by simpa using h4
   go_enter Tryz.func152,Tryz.ntmps152
   go_wp2;go_ret;exact ⟨rfl,(Below.refl _ _).alloc (Nat.le_refl _) _⟩
def un (r:ByteArray×Nat):Value:=.tuple #[.string r.1,errV r.2]
theorem vZ (T R K:Int) (key val:ByteArray) (N:Int) (w:World) (hk:key.size≤140737488351232) (hv:val.size≤140737488351232) :
 Calls Tryz.prog 118 #[.agg #[.int .i64 T,.int .i64 R,.int .i64 K,.string key,.string val,.int .i64 N]] w fun e w'=>e=.returned (un (lW T R K key val N))∧Below w.heap.size w w':=by
 have HN0:=hid (ik w T R K key val N 38);obtain ⟨E,hE⟩:∃ E,wriE T R K key val N=E:=⟨_,rfl⟩;have HE:=hid hE;clear hE;go_enter Tryz.func118,Tryz.ntmps118
 go_wp2_with fail
 refine (gy T R K key val N _ hk hv).mono ?_;rintro r w1 ⟨rfl,hb1⟩;rw [HE.out];have HA1:=hid (HN0.out.below hb1 (by simp));have HB1:=hid (((Below.refl _ _).alloc (Nat.le_refl _) _).trans (hb1.mono (by simp)));have HL1:Hid (w.heap.size<w1.heap.size):=hid (by have:=hb1.size;simp at this;exact this);clear hb1;by_cases h0:E=0
 ·subst h0;have HT:=hid (oM HE.out);obtain ⟨g1,g2,g3,g4,g5,g6⟩:=fL HE.out;have G6:=hid g6;have G4:=hid g4;clear g1 g2 g3 g5 g6;obtain ⟨c0,c1,c2,c3,c4,c5⟩:=HA1.out;rw [show errV 0=Value.nilIface from rfl];go_wp2_with fail
  refine (G9 T R K key val N _ G6.out).mono ?_;rintro r w2 ⟨rfl,hb2⟩;have HA2:=hid (HA1.out.below hb2 HL1.out);have HB2:=hid (HB1.out.trans (hb2.mono (Nat.le_of_lt HL1.out)));have hp:=sI G6.out;obtain ⟨P,hP⟩:∃ P,numB K N=P:=⟨_,rfl⟩;rw [hP] at hp ⊢;have HP:=hid hP;clear hb2 c0 c1 c2 c3 c4 c5 hP;obtain ⟨c0,c1,c2,c3,c4,c5⟩:=HA2.out;cases hV:hasV K with
  | false =>
   have HR:Hid (bc K val N=P):=hid (show _=_ by
    unfold bc valB;rw [HP.out,hV,if_neg (by decide)];exact jX (by rw [gG];simp))
   go_wp2_with (go_at_call 71;refine (eD K false _ hV).mono ?_;rintro r w3 ⟨rfl,rfl⟩)
   go_ret2;rw [HT.out,HR.out];exact ⟨rfl,HB2.out⟩
  | true =>
   have HR:Hid (bc K val N=P++dK val):=hid (show _=_ by unfold bc valB;rw [HP.out,hV,if_pos rfl]);have hs:=tP g4;obtain ⟨S,hS⟩:∃ S,dK val=S:=⟨_,rfl⟩;rw [hS] at hs HR;have HS:=hid hS;clear hS;go_wp2_with (first
    | (go_at_call 71;refine (eD K true _ hV).mono ?_;rintro r w3 ⟨rfl,rfl⟩)
    | (go_at_call 117;refine (oI val _ (Nat.le_trans G4.out (by decide))).mono ?_;rintro r w4 ⟨rfl,hb4⟩;have HB4:=hid (HB2.out.trans (hb4.mono HB2.out.size));clear hb4;rw [HS.out]))
   go_ret2;rw [HT.out,HR.out];exact ⟨rfl,HB4.out⟩
 ·have HT:=hid (Ey (by rw [HE.out];exact h0));rw [dS h0];go_wp2;go_ret2;rw [HT.out,HE.out];refine ⟨?_,HB1.out⟩;show _=Ending.returned (.tuple #[.string ⟨#[]⟩,errV E])
  rw [dS h0]
  rfl
end
section
open Go.RowKit
def sqL (s:List UInt8):List UInt8:=bu (toks s)
theorem E8 (s:List UInt8) (h:s.length≤20000):ef (toks s)=sqL s∧am (toks s) 0 0=(0,-1):=by
 have h1:=(oR s h).1;refine ⟨?_,h1⟩;unfold ef;rw [if_pos (by rw [h1])];rfl
theorem EY (s:List UInt8) (h:s.length≤400000):(toks s).length≤9223372036854775807∧∀ t∈toks s,t.own.size≤140737488351232:=by
 have h1:=EP s s.length 0 0;refine ⟨by unfold toks;omega,fun t ht=>?_⟩;have:=EQ s _ _ _ t ht;omega
theorem Bn (s:ByteArray) (w:World) (hs:s.size≤20000) :
 Calls Tryz.prog 114 #[.string s] w fun e w'=>e=.returned (.tuple #[.string ⟨(sqL s.data.toList).toArray⟩,.nilIface])∧Below w.heap.size w w':=by
 have hl:s.data.toList.length≤20000:=by rw [←aj];exact hs
 obtain ⟨f1,f2⟩:=EY s.data.toList (by omega);obtain ⟨g1,g2⟩:=E8 s.data.toList hl;have F1:=hid f1;have F2:=hid f2;have G1:=hid g1;have G2:=hid g2;clear f1 f2 g1 g2 hl;go_enter Tryz.func114,Tryz.ntmps114
 go_wp2_with fail
 refine (EV s _ (by omega)).mono ?_;rintro r w1 ⟨v,rfl,hown,hb1⟩;have HO:=hid hown;have HB1:=hid hb1;clear hown hb1;go_wp2_with fail
 refine (Bp v _ _ HO.out.is F1.out F2.out).mono ?_;rintro r w2 ⟨err,rfl,hat,hb2⟩;obtain rfl:err=.nilIface:=by
  rcases hat with ⟨_,h⟩ | ⟨h,_⟩
  ·exact h
  ·exact absurd (by rw [G2.out]) h
 rw [G1.out];have HB2:Hid (Below w.heap.size w w2):=HB1.out.trans (hb2.mono HB1.out.size);clear hat hb2;go_wp2;go_ret2;exact ⟨rfl,HB2.out⟩
end
section
open Go.RowKit
theorem BI {l:List Ent} {k:Nat} {t:Ent} (h:l[k]? = some t) (x:Int):ofF (l.drop k) x=if t.rep=x then t.time else ofF (l.drop (k+1)) x:=by
 obtain ⟨hk,ht⟩:=List.getElem?_eq_some_iff.1 h;rw [List.drop_eq_getElem_cons hk,ht];rfl
theorem FO (v:Value) (l:List Ent) (x:Int) (w:World) (hv:ae w v l) (hl:l.length≤9223372036854775807) :
 Calls Tryz.prog 19 #[v,.int .i64 x] w fun r w'=>r=.returned (.int .i64 (ofF l x))∧Below w.heap.size w w':=by
 obtain ⟨a1,c1,rfl,f1⟩:=hv.form;have F1:=hid f1;obtain ⟨n,hn⟩:∃ n,n=l.length:=⟨_,rfl⟩;rw [←hn] at hl ⊢;have HN:=hid hn;clear hv f1 hn;go_enter Tryz.func19,Tryz.ntmps19
 go_wp2
 go_loopw [9] (fun i wr=>∃ k:Nat,k≤n∧i=.int .i64 k∧ofF l x=ofF (l.drop k) x∧Below w.heap.size w wr) (fun i _=>n-(intOf i).toNat)
 case atStart=>exact ⟨0,by omega,rfl,rfl,Below.refl _ _⟩
 case round =>
  obtain ⟨k,hk,rfl,heq,hbel⟩:=hrel;have HEQ:=hid heq;have HB:=hid hbel;have hzr:=hbel.size;clear heq hbel;by_cases hlt:k<n
  ·obtain ⟨t, ht⟩ : ∃ t, l[k]? = some t := ⟨l[k]'(by have := HN.out; omega), List.getElem?_eq_getElem _⟩;obtain ⟨b1,o1,rfl,hb1,p0,p1⟩:=F1.out k t ht;have hd:=BI ht x;obtain ⟨rep,time⟩:=t;simp only at p0 p1 hd
   have q0:=(HB.out.cell (p:=⟨b1,o1+k * 2,none⟩) hb1).trans p0;have q1:=(HB.out.cell (p:=⟨b1,o1+k * 2+1,none⟩) hb1).trans p1;by_cases hx:rep=x
   ·have HW:Hid (ofF l x=time):=hid (show ofF l x=time by rw [HEQ.out,hd,if_pos hx]);clear p0 p1 ht hd;subst hx;go_wp2;go_ret;exact ⟨by rw [HW.out];rfl,HB.out.alloc hzr _⟩
   ·have HW:Hid (ofF l x=ofF (l.drop (k+1)) x):=hid (show ofF l x=ofF (l.drop (k+1)) x by rw [HEQ.out,hd,if_neg hx]);have bx:(rep == x)=false:=by simpa using hx
    clear p0 p1 ht hd;go_wp2;go_roundw
    case rel=>exact ⟨k+1,by omega,by go_num,HW.out,HB.out.alloc hzr _⟩
    case measure=>simp [intOf];omega
  ·have HW:Hid (ofF l x=0):=hid (show ofF l x=0 by rw [HEQ.out,List.drop_eq_nil_of_le (by have:=HN.out;omega)];rfl);go_wp2;go_ret;exact ⟨by rw [HW.out];rfl,HB.out⟩
def noV (e:Nat):Value:=if e=0 then .nilIface else .iface 68 (.int .i64 (e:Nat))
theorem gW:noV 0=.nilIface:=rfl
theorem eZ {e:Nat} (h:e≠0):noV e=.iface 68 (.int .i64 (e:Nat)):=by unfold noV;rw [if_neg h]
theorem ig (v:Value) (l:List Ent) (w:World) (hv:ae w v l) (hl:l.length≤9223372036854775807) (hg:errT w) :
 Calls Tryz.prog 66 #[v] w fun r w'=>r=.returned (noV (aq l).1)∧Below w.heap.size w w':=by
 have HV:=hid hv;have HG:=hid hg;obtain ⟨a1,c1,rfl,_⟩:=hv.form;obtain ⟨n,hn⟩:∃ n,n=l.length:=⟨_,rfl⟩;have HL:=hid hl;rw [←hn] at HV ⊢;clear hv hg hn hl;by_cases h0:(aq l).1=0
 ·have H0:=hid h0;clear h0;rw [H0.out];go_enter Tryz.func66,Tryz.ntmps66
  go_wp2_with fail
  refine (cC _ l _ HV.out HL.out).mono ?_;rintro r w1 ⟨err,rfl,hat,hb1⟩;obtain rfl:=hat.nil H0.out;have HB1:=hid hb1;clear hat hb1;go_wp2;go_ret;exact ⟨rfl,HB1.out⟩
 ·have H0:=hid h0;have HQ:=hid (eZ h0);clear h0;go_enter Tryz.func66,Tryz.ntmps66
  go_wp2_with fail
  refine (cC _ l _ HV.out HL.out).mono ?_;rintro r w1 ⟨err,rfl,hat,hb1⟩;have HE:=hid (hat.isErr H0.out);obtain ⟨t,u,rfl⟩:=hat.iface H0.out;have HB1:=hid hb1;have HG1:=hid (HG.out.below hb1);clear hat hb1;go_wp2_with fail
  refine (dM _ _ _ HG1.out HE.out).mono ?_;rintro r w2 ⟨rfl,hb2⟩;have HB2:Hid (Below w.heap.size w w2):=HB1.out.trans (hb2.mono HB1.out.size);clear hb2;go_wp2;go_ret;exact ⟨by rw [HQ.out];rfl,HB2.out⟩
end
section
open Go.RowKit
theorem ys (w:World) :
 Calls Tryz.prog 67 #[.slice none 0 0] w fun e w'=>e=.returned (.slice none 0 0)∧w=w':=by
 have heq:∀ w:World,(binOp BinOp.eql 30 (.slice none 0 0) (.slice none 0 0)).run Tryz.prog w=.ok (.bool true) w:=fun w=>Go.Lib.run_eql_slice_nil w _ _ none 0 0 0 0 Tryz.underlying30
 go_enter Tryz.func67,Tryz.ntmps67
 go_wp2;go_ret;exact ⟨rfl,rfl⟩
theorem yu (v:Value) (l:List Wr) (w:World) (ho:ak w 0 v l) (hz:l=[]→v=.slice none 0 0) (h6:l.length≤1000000) :
 Calls Tryz.prog 67 #[v] w fun e w'=>∃ v',e=.returned v'∧ak w' w.heap.size v' l∧(l=[]→v'=.slice none 0 0)∧Below w.heap.size w w':=by
 by_cases h:l=[]
 ·subst h;rw [hz rfl];exact (ys w).mono fun e w' ⟨h1,h2⟩=>⟨_,h1,eK _ _,fun _=>rfl,by rw [h2];exact Below.refl _ _⟩
 ·exact (yt v l w ho.is (List.length_pos_iff.2 h) h6).mono fun e w' ⟨v',h1,h2,h3⟩=>⟨v',h1,h2,fun e=>absurd e h,h3⟩
def wG (w:World) (ws b:List Wr) (e:Ending) (w':World):Prop :=
 (togE ws b=(0,-1)∧∃ u,e=.returned (.tuple #[u,.nilIface])∧ak w' w.heap.size u (accW ws b)∧(accW ws b=[]→u=.slice none 0 0)∧Below w.heap.size w w') ∨
 ((togE ws b).1≠0∧∃ err,e=.returned (.tuple #[.slice none 0 0,err])∧ax w' err (togE ws b)∧Below w.heap.size w w')
theorem lZ {ws b:List Wr} {k:Nat} {x:Wr} (hn:∀ y∈b.take k,¬ dp ws y) (hx:b[k]? = some x) (hc:dp ws x):togE ws b=(9,(k:Int)):=by
 unfold togE;rw [F0 b k 0 x hn hx hc];simp
theorem uu {ws b:List Wr} (hn:∀ y∈b,¬ dp ws y):togE ws b=if 300<(accW ws b).length then (12,-1) else (0,-1):=by
 unfold togE;rw [(oT b 0).2 hn,mw]
theorem ul {b:List Wr} {n:Nat} (h:n=b.length):b.take n=b:=List.take_of_length_le (by rw [h];exact Nat.le_refl _)
structure TG (w:World) (ws b:List Wr) (k:Nat) (av:Value) (wr:World):Prop where
 own:ak wr w.heap.size av (accW ws (b.take k))
 nil:accW ws (b.take k)=[]→av=.slice none 0 0
 none:∀ y∈b.take k,¬ dp ws y
 bel:Below w.heap.size w wr
theorem TG.there {w wr w':World} {ws b:List Wr} {k:Nat} {av:Value} {x y:Wr} (h:TG w ws b k av wr) (hw:ws.Pairwise late) (hb:b.Pairwise late) (hx:b[k]? = some x) (hy:y∈ws) (e:y=x) (hbel:Below wr.heap.size wr w'):TG w ws b (k+1) av w':=by
 have h1:=wR hw hb hx hy (by rw [e]);refine ⟨by rw [h1];exact h.own.below hbel,by rw [h1];exact h.nil,fun z hz=>?_,h.bel.trans (hbel.mono h.bel.size)⟩;rw [lX hx] at hz;rcases List.mem_append.1 hz with hz | hz
 ·exact h.none z hz
 ·obtain rfl:=List.mem_singleton.1 hz;rintro ⟨v,hv,e1,e2⟩;exact e2 ((si hw hv hy (e1.trans (by rw [e]))).trans e)
theorem TG.put {w wr w':World} {ws b:List Wr} {k p:Nat} {av u:Value} {x:Wr} (h:TG w ws b k av wr) (hw:ws.Pairwise late) (hb:b.Pairwise late) (hx:b[k]? = some x) (hp:p≤(accW ws (b.take k)).length)
 (h1:∀ i,i<p→0<cAt (accW ws (b.take k)) (wid x) i) (h2:∀ i,p≤i→i<(accW ws (b.take k)).length→cAt (accW ws (b.take k)) (wid x) i≤0) (hn:¬ (p<(accW ws (b.take k)).length∧cAt (accW ws (b.take k)) (wid x) p=0))
 (ho:ak w' w.heap.size u ((accW ws (b.take k)).take p++x::(accW ws (b.take k)).drop p)) (hbel:Below w.heap.size w w'):TG w ws b (k+1) u w':=by
 have hl:(accW ws (b.take k)).Pairwise late:=fR hw (gx hb k);have g1:∀ i y,i<p→(accW ws (b.take k))[i]? = some y→late y x:=fun i y hi hy=>(mO hy).1 (h1 i hi)
 have g2:∀ i y,p≤i→(accW ws (b.take k))[i]? = some y→late x y:=fun i y hi hy=>by
  have hil:=(List.getElem?_eq_some_iff.1 hy).1;have hne:wid y≠wid x:=fun e=>by
   by_cases hip:i=p
   ·subst hip;exact hn ⟨hil,(qu hy).2 e⟩
   ·obtain ⟨z,hz⟩:∃ z,(accW ws (b.take k))[p]? = some z:=⟨_,List.getElem?_eq_getElem (by omega)⟩;have hpz:=h2 p (Nat.le_refl _) (by omega);have hzy:late z y:=by
     have:=List.pairwise_iff_getElem.1 hl p i (by omega) hil (by omega)
     rwa [(List.getElem?_eq_some_iff.1 hz).2,(List.getElem?_eq_some_iff.1 hy).2] at this
    have hzx:late z x:=by
     rw [eI] at hzy ⊢;unfold wid at e;simp only [Prod.mk.injEq] at e
     omega
    have:=(mO (x:=x) hz).2 hzx;omega
  rcases AJ hne with e | e
  ·have:=(mO (x:=x) hy).2 e;have:=h2 i hi hil;omega
  ·exact e
 have e:=wP hw hb hx hp g1 g2;refine ⟨by rw [e];exact ho,fun e2=>?_,fun z hz=>?_,hbel⟩
 ·rw [e] at e2;simp at e2
 ·rw [lX hx] at hz;rcases List.mem_append.1 hz with hz | hz
  ·exact h.none z hz
  ·obtain rfl:=List.mem_singleton.1 hz;rintro ⟨v,hv,e1,_⟩;have hvA:v∈accW ws (b.take k):=fS.2 (.inl hv);obtain ⟨i,hi,e3⟩:=List.getElem_of_mem hvA;have hv2:(accW ws (b.take k))[i]? = some v:=by rw [List.getElem?_eq_getElem hi,e3]
   by_cases hip:i<p
   ·exact dr (g1 i v hip hv2) e1
   ·exact dr (g2 i v (by omega) hv2) e1.symm
theorem EU (P:Nat) (F:Nat→Prop) (s:LogS) (v:Value) (b:List Wr) (w:World) (h:aQ w P F s) (ok:aM s) (hv:az w v b) (hb:b.Pairwise late) (hbl:b.length≤60) (hok:∀ x∈b,x.key.size≤140737488351232∧x.value.size≤140737488351232) :
 Calls Tryz.prog 47 #[.pointer (some ⟨P,0,none⟩),v] w (wG w s.ws b):=by
 obtain ⟨vh,vw,h⟩:=h;have p2:=h.c2;obtain ⟨ws,hws⟩:∃ ws,ws=s.ws:=⟨_,rfl⟩;have HO:=hid h.ows;have HZ:=hid h.nil;have HS:=hid ok.srt;have hln:=ok.len;rw [←hws] at HO HZ HS hln ⊢;obtain ⟨a,c,rfl,hf⟩:=hv.form;have HF:=hid hf;have HBL:=hid hb;have HOK:=hid hok;have HLN:=hid hln;obtain ⟨n,hn⟩:∃ n,n=b.length:=⟨_,rfl⟩;rw [←hn] at hbl ⊢;have HN:=hid hn;clear h ok hws hv hb hok hf hn hln;go_enter Tryz.func47,Tryz.ntmps47
 go_wp2_with (go_at_call 67;refine (yu vw ws _ HO.out HZ.out (by have:=HLN.out;omega)).mono ?_;rintro r w1 ⟨u,rfl,ho,hz,hb1⟩;have HT0:Hid (TG w ws b 0 u w1):=hid ⟨by rw [List.take_zero,pL HS.out];exact ho,by rw [List.take_zero,pL HS.out];exact hz,fun y hy=>(by simp at hy),hb1⟩;clear ho hz hb1)
 go_loopw [6,18] (fun av i wr=>∃ k:Nat,k≤n∧i=.int .i64 k∧TG w ws b k av wr) (fun _ i _=>n-(intOf i).toNat)
 case atStart=>exact ⟨0,by omega,rfl,HT0.out⟩
 case round =>
  obtain ⟨k,hk,rfl,ht⟩:=hrel;have HT:=hid ht;have HSR:=hid ht.bel.size;clear ht HT0;by_cases hlt:k<n
  ·have b1:decide ((k:Int)<(n:Int))=true:=by simpa using hlt
   obtain ⟨x, hx⟩ : ∃ x, b[k]? = some x := ⟨b[k]'(by rw [← HN.out]; exact hlt), List.getElem?_eq_getElem _⟩;obtain ⟨bb,off,rfl,hbl2,c0,c1,c2,c3,c4,c5⟩:=HF.out k x hx;have hsz:=HOK.out x (List.mem_of_getElem? hx);have HX:=hid hx;obtain ⟨T,Re,K,key,val,N⟩:=x;simp only at c0 c1 c2 c3 c4 c5 hsz
   obtain ⟨hks,hvs⟩:=hsz;have d:∀ j u,w.cell? ⟨bb,j,none⟩=some u→wr.cell? ⟨bb,j,none⟩=some u:=fun j u hu=>(HT.out.bel.cell (p:=⟨bb,j,none⟩) hbl2).trans hu
   have e0:=d _ _ c0;have e1:=d _ _ c1;have e2:=d _ _ c2;have e3:=d _ _ c3;have e4:=d _ _ c4;have e5:=d _ _ c5;have HKS:=hid hks;have HVS:=hid hvs;obtain ⟨A,hA⟩:∃ A,A=accW ws (b.take k):=⟨_,rfl⟩;have HA:=hid hA;have hAl:A.length≤400:=by
    rw [hA,mw];have h1:=HLN.out;have h2:(bd ws (b.take k)).length≤(b.take k).length:=List.length_filter_le _ _;rw [List.length_take] at h2;omega
   have HAL:=hid hAl;have HOA:Hid (ak wr w.heap.size u6 A):=hid (by rw [hA];exact HT.out.own);have HAS:Hid (A.Pairwise late):=hid (by rw [hA];exact fR HS.out (gx HBL.out k));clear hx c0 c1 c2 c3 c4 c5 d hbl2 hks hvs hA hAl;go_wp2_with fail
   obtain ⟨wB,hwB⟩:∃ wB,wB=wr.alloc (.cells #[.int .i64 T,.int .i64 Re,.int .i64 K,.string key,.string val,.int .i64 N] 38):=⟨_,rfl⟩;have hrow:wB.heap[wr.heap.size]? = some (.cells #[.int .i64 T,.int .i64 Re,.int .i64 K,.string key,.string val,.int .i64 N] 38 (0,0)):=by rw [hwB];exact heap_alloc_new _ _
   have HROW:=hid hrow;have HBB:Hid (Below wr.heap.size wr wB):=hid (by rw [hwB];exact (Below.refl _ _).alloc (Nat.le_refl _) _);have HSB:Hid (wr.heap.size<wB.heap.size):=hid (by rw [hwB];simp);rw [←hwB];clear hwB hrow e0 e1 e2 e3 e4 e5;refine (Bh u6 A T Re wB (HOA.out.below HBB.out).is (by have:=HAL.out;omega) HAS.out).mono ?_;rintro r w2 ⟨p,hp,h1,h2,rfl,hb2⟩;have HPP:Hid (p≤A.length∧(∀ k,k<p→0<cAt A (T,Re) k)∧(∀ k,p≤k→k<A.length→cAt A (T,Re) k≤0)):=hid ⟨hp,h1,h2⟩;have HB2:Hid (Below wr.heap.size wr w2):=hid (HBB.out.trans (hb2.mono HBB.out.size));have hrow2:w2.heap[wr.heap.size]? = some (.cells #[.int .i64 T,.int .i64 Re,.int .i64 K,.string key,.string val,.int .i64 N] 38 (0,0)):=(hb2.block _ HSB.out).trans HROW.out;have HROW2:=hid hrow2;have g0:=cell_of_row _ _ 0 _ _ _ hrow2;have g1:=cell_of_row _ _ 1 _ _ _ hrow2;have g2:=cell_of_row _ _ 2 _ _ _ hrow2;have g3:=cell_of_row _ _ 3 _ _ _ hrow2;have g4:=cell_of_row _ _ 4 _ _ _ hrow2;have g5:=cell_of_row _ _ 5 _ _ _ hrow2;simp only [List.getElem?_toArray,List.getElem?_cons_zero,List.getElem?_cons_succ] at g0 g1 g2 g3 g4 g5
   have hpA:p≤400:=Nat.le_trans hp HAL.out;clear hp h1 h2 hb2 hrow2;by_cases hth:p<A.length∧cAt A (T,Re) p=0
   ·rw [decide_eq_true hth];obtain ⟨y, hy⟩ : ∃ y, A[p]? = some y := ⟨A[p]'hth.1, List.getElem?_eq_getElem _⟩;have hyw:wid y=wid ⟨T,Re,K,key,val,N⟩:=(qu hy).1 hth.2;have hys:y∈ws:=wQ HBL.out HX.out (by rw [←HA.out];exact List.mem_of_getElem? hy) hyw;have hpl:p<A.length:=hth.1;obtain ⟨av,ac,rfl,hfa⟩:=(HOA.out.below HB2.out).is.form;obtain ⟨m,hm⟩:∃ m,m=A.length:=⟨_,rfl⟩;rw [←hm] at hpl HOA HT ⊢;have hplI:(p:Int)<(m:Int):=by omega
    have hm4:m≤400:=by rw [hm];exact HAL.out
    obtain ⟨ab,aoff,rfl,_,f0,f1,f2,f3,f4,f5⟩:=hfa p y hy;have HYS:=hid hys;obtain ⟨T',Re',K',key',val',N'⟩:=y;simp only at f0 f1 f2 f3 f4 f5
    simp only [wid,Prod.mk.injEq] at hyw
    obtain ⟨rfl,rfl⟩:=hyw;clear hy hys hfa hth hm;by_cases he:K'=K
    ·subst he;by_cases he:key'=key
     ·subst he;by_cases he:val'=val
      ·subst he;by_cases he:N'=N
       ·subst he;go_wp2
        go_quiet (fail)
        go_wp2;go_roundw
        ·exact ⟨k+1,by omega,by simp,HT.out.there HS.out HBL.out HX.out HYS.out rfl (below_drewN HB2.out _)⟩
        ·simp [intOf];omega
       ·have HTE:Hid (togE ws b=(9,(k:Int))):=hid (lZ HT.out.none HX.out ⟨_,HYS.out,rfl,fun e=>by simp only [Wr.mk.injEq] at e;exact he e.2.2.2.2.2⟩);have x1:(N' == N)=false:=by simpa using he
        have x2:(N' != N)=true:=by simpa using he
        clear he;go_wp2
        go_quiet (fail)
        go_wp2;go_ret2;exact .inr (by rw [HTE.out];exact ⟨by simp,_,rfl,.inl (atIs.new _ 9 _ (by simp)),(below_drewN (HT.out.bel.trans (HB2.out.mono HSR.out)) _).alloc (Nat.le_trans HSR.out (below_drewN HB2.out _).size) _⟩)
      ·have HTE:Hid (togE ws b=(9,(k:Int))):=hid (lZ HT.out.none HX.out ⟨_,HYS.out,rfl,fun e=>by simp only [Wr.mk.injEq] at e;exact he e.2.2.2.2.1⟩);have x1:(val'.toList == val.toList)=false:=by rw [ByteArray.toList_eq,ByteArray.toList_eq,beq_eq_false_iff_ne];intro e9;exact he (cX e9)
       have x2:(val'.toList != val.toList)=true:=by rw [bne,x1];rfl
       clear he;go_wp2
       go_quiet (fail)
       go_wp2;go_ret2;exact .inr (by rw [HTE.out];exact ⟨by simp,_,rfl,.inl (atIs.new _ 9 _ (by simp)),(below_drewN (HT.out.bel.trans (HB2.out.mono HSR.out)) _).alloc (Nat.le_trans HSR.out (below_drewN HB2.out _).size) _⟩)
     ·have HTE:Hid (togE ws b=(9,(k:Int))):=hid (lZ HT.out.none HX.out ⟨_,HYS.out,rfl,fun e=>by simp only [Wr.mk.injEq] at e;exact he e.2.2.2.1⟩);have x1:(key'.toList == key.toList)=false:=by rw [ByteArray.toList_eq,ByteArray.toList_eq,beq_eq_false_iff_ne];intro e9;exact he (cX e9)
      have x2:(key'.toList != key.toList)=true:=by rw [bne,x1];rfl
      clear he;go_wp2
      go_quiet (fail)
      go_wp2;go_ret2;exact .inr (by rw [HTE.out];exact ⟨by simp,_,rfl,.inl (atIs.new _ 9 _ (by simp)),(below_drewN (HT.out.bel.trans (HB2.out.mono HSR.out)) _).alloc (Nat.le_trans HSR.out (below_drewN HB2.out _).size) _⟩)
    ·have HTE:Hid (togE ws b=(9,(k:Int))):=hid (lZ HT.out.none HX.out ⟨_,HYS.out,rfl,fun e=>by simp only [Wr.mk.injEq] at e;exact he e.2.2.1⟩);have x1:(K' == K)=false:=by simpa using he
     have x2:(K' != K)=true:=by simpa using he
     clear he;go_wp2
     go_quiet (fail)
     go_wp2;go_ret2;exact .inr (by rw [HTE.out];exact ⟨by simp,_,rfl,.inl (atIs.new _ 9 _ (by simp)),(below_drewN (HT.out.bel.trans (HB2.out.mono HSR.out)) _).alloc (Nat.le_trans HSR.out (below_drewN HB2.out _).size) _⟩)
   ·rw [decide_eq_false hth];have HTH:=hid hth;have hne:∀ (W:World),w2.heap.size≤W.heap.size→u6.ownBlock≠some W.heap.size:=fun W hW e=>by
     have h1:=(HOA.out.lt _ e).2;have h2:=HB2.out.size;omega
    have HNE:=hid hne;clear hth hne;go_wp2_with fail
    refine (nM T Re K key val N _ HKS.out HVS.out).mono ?_;rintro r w3 ⟨rfl,hb3⟩;have HB3:Hid (Below wr.heap.size wr w3):=hid (HB2.out.trans (hb3.mono HB2.out.size));have HS3:=hid hb3.size;clear hb3;go_wp2_with fail
    refine (B6 u6 p A.length w3.heap.size A ⟨T,Re,K,key,val,N⟩ _ w.heap.size ((HOA.out.below HB3.out).alloc _) rfl HPP.out.1 (by have:=HAL.out;omega) (heap_alloc_new _ _) (HNE.out w3 HS3.out) (by have:=HSR.out;have:=HB3.out.size;simp;omega)).mono ?_;rintro r w4 ⟨u,rfl,ho4,hb4⟩;have HO4:=hid ho4;have HB4:Hid (Below w.heap.size w w4):=hid (((HT.out.bel.trans (HB3.out.mono HSR.out)).alloc (Nat.le_trans HSR.out HB3.out.size) _).trans hb4);clear ho4 hb4;go_wp2;go_roundw
    ·refine ⟨k+1,by omega,by simp,?_⟩;have h1:=HPP.out;have h2:=HTH.out;have h3:=HO4.out;rw [HA.out] at h1 h2 h3;exact HT.out.put HS.out HBL.out HX.out h1.1 h1.2.1 h1.2.2 h2 h3 HB4.out
    ·simp [intOf];omega
  ·have b1:decide ((k:Int)<(n:Int))=false:=by simp;omega
   obtain rfl:k=n:=by omega
   have HNO:Hid (∀ y∈b,¬ dp ws y):=hid (by have:=HT.out.none;rwa [ul HN.out] at this);have HOB:Hid (ak wr w.heap.size u6 (accW ws b)∧(accW ws b=[]→u6=.slice none 0 0)):=hid (by have h1:=HT.out.own;have h2:=HT.out.nil;rw [ul HN.out] at h1 h2;exact ⟨h1,h2⟩);have HTB:=hid HT.out.bel;clear HT;obtain ⟨av,ac,rfl,_⟩:=HOB.out.1.is.form;obtain ⟨m,hm⟩:∃ m,m=(accW ws b).length:=⟨_,rfl⟩;rw [←hm] at HOB ⊢;have HM:=hid hm;clear hm;by_cases hf:300<m
   ·have b2:decide ((300:Int)<(m:Int))=true:=by simp;omega
    have HTE:Hid (togE ws b=(12,-1)):=hid (by rw [uu HNO.out,←HM.out,if_pos hf]);clear hf;go_wp2;go_ret2;exact .inr (by rw [HTE.out];exact ⟨by simp,_,rfl,.inr ⟨by simp,rfl,rfl⟩,HTB.out⟩)
   ·have b2:decide ((300:Int)<(m:Int))=false:=by simp;omega
    have HTE:Hid (togE ws b=(0,-1)):=hid (by rw [uu HNO.out,←HM.out,if_neg hf]);clear hf;go_wp2;go_ret2;exact .inl ⟨HTE.out,_,rfl,HOB.out.1,HOB.out.2,HTB.out⟩
end
