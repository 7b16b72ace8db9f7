import Derived.Test.YtagoidpkbloflaaGreatDoorKlq
import Derived.Test.YtagoidpkbloflaaGreatDoorKl14
namespace Go.Proofs.YtagoidpkbloflaaGreatDoor
open Lib (hid)
set_option maxRecDepth 100000
set_option maxHeartbeats 8000000
section
open Go.RowKit
theorem eF (w:World) {ops:Array Oper} {o:Oper} {a:Act} {K:Act→World→Prop} {Q:Exit→Act→World→Prop} {E:Prop} (hgd:o.guard=none) (s x:Operand)
 (ho:o.op=.call { callee:=.builtin .append,args:=#[s,x],argTypes:=#[22,22] })
 (base:Nat) (v:Value) (l:List Ent) (hs:a.eval s=v) (hown:ai w base v l)
 (B c:Nat) (hx:a.eval x=.slice (some ⟨B,0,none⟩) 1 c) (t:Ent) (hcell:ee w B t)
 (hlen:l.length+1≤1000000) (hbase:base≤w.heap.size)
 (h:∀ g cap w',ai w' base (.slice (some ⟨g,0,none⟩) (l.length+1) cap) (l++[t])→w.grownBy w' v.ownBlock→(v.ownBlock=some g∨g=w.heap.size)→K (a.put o.dst (.slice (some ⟨g,0,none⟩) (l.length+1) cap)) w') :
 if Region.wanted o (yielded ops a.tmps)=true then Oper.wp Tryz.prog o a w K Q else E:=by
 obtain ⟨i0,hi,hz0,hz1,hz2⟩:=DU mq;refine step_append_lies w hgd s x 22 ho base 73 i0 (.agg #[.int .i64 0,.int .i64 0]) 2 16 Tryz.underlying22 hi hz0 hz1 hz2 rfl (by decide) v l.length (bG l) hs hown ⟨B,0,none⟩ 1 c (entC t) hx rfl ?_ ?_ (by decide) (by unfold maxLen;omega) (by omega) hbase _ rfl ?_
 ·intro j u hj;have hadd:(⟨B,0,none⟩:Addr).add j=⟨B,j,none⟩:=by unfold Addr.add;split <;> simp_all
  rw [hadd,Dd _ _ _ _ _ _ hcell,←hj];unfold entC;simp
 ·intro u hu;simp [entC] at hu;rcases hu with rfl | rfl <;> rfl
 ·intro g cap w' h1 h2 h3 _;refine h g cap w' ?_ h2 h3;unfold ai;rw [Df,lS]
  simpa [bG] using h1
theorem aL.stored {w:World} {base g n cap:Nat} {l:List Value} {d:Value} (h:aL w base (.slice (some ⟨g,0,none⟩) n cap) (l++[d])) (hn:n=l.length+1) (x:Value) :
 aL (w.setCell ⟨g,l.length,none⟩ x) base (.slice (some ⟨g,0,none⟩) n cap) (l++[x])∧w.grownBy (w.setCell ⟨g,l.length,none⟩ x) (some g):=by
 subst hn;unfold aL at h ⊢;rw [Df] at h ⊢;have h2:=World.ownsRow.stored h l.length x;have e:(l++[d]).set l.length x=l++[x]:=by
  rw [List.set_append_right _ _ (Db _),Nat.sub_self];rfl
 rw [e] at h2;exact h2
theorem aL.last {w:World} {base g n cap:Nat} {l:List Value} {d:Value} (h:aL w base (.slice (some ⟨g,0,none⟩) n cap) (l++[d])) (hn:n=l.length+1) :
 w.cell? ⟨g,l.length,none⟩=some d∧w.frozen? ⟨g,l.length,none⟩=false∧base≤g∧g<w.heap.size:=by
 subst hn;have hlt:=h.lt g rfl;unfold aL at h;rw [Df] at h;refine ⟨?_,World.ownsRow.frozenAt h _,hlt.1,hlt.2⟩;rw [Ej h _ (by simp)];simp
end
section
open Go.RowKit
def kF (T R K:Int) (key val:ByteArray) (N:Int):ByteArray×Nat:=if wriE T R K key val N=0 then (b7 K val N,0) else (⟨#[]⟩,wriE T R K key val N)
theorem rV {T R K:Int} {key val:ByteArray} {N:Int} (h:wriE T R K key val N≠0):kF T R K key val N=(⟨#[]⟩,wriE T R K key val N):=if_neg h
theorem kG {T R K:Int} {key val:ByteArray} {N:Int} (h:wriE T R K key val N=0):kF T R K key val N=(b7 K val N,0):=if_pos h
theorem dy {e:Nat} (h:e≠0):errV e=.iface 26 (.int .i64 e):=by unfold errV;rw [if_neg h]
theorem t6 {N:Int} (h0 : -1125899906842624≤N) (h1:N≤1125899906842624):0≤zigN N∧zigN N≤2251799813685249:=by unfold zigN;split <;> omega
theorem qh {K N:Int} (h:aV K N=true):(numB K N).size≤10:=by
 unfold numB;unfold aV at h;by_cases h3:K=3
 ·rw [if_pos h3] at h ⊢;simp only [EL,Eo] at h
  have:=t6 h.1 h.2;rw [bm];exact aK (by omega)
 ·rw [if_neg h3] at h ⊢;by_cases h4:K=4
  ·rw [if_pos h4] at h ⊢;simp only [EL,Eo] at h
   rw [bm];exact aK (by omega)
  ·rw [if_neg h4];decide
theorem n4 {s:ByteArray} (h:s.size≤300):(bT s).size≤310:=by
 rw [ru];have:=aK (n:=s.size) (by omega);omega
theorem Cy (T R K:Int) (key val:ByteArray) (N:Int) (w:World) (h:aV K N=true) :
 Calls Tryz.prog 176 #[.agg #[.int .i64 T,.int .i64 R,.int .i64 K,.string key,.string val,.int .i64 N]] w fun e w'=>e=.returned (.string (numB K N))∧Below w.heap.size w w':=by
 unfold numB;unfold aV at h;by_cases h3:K=3
 ·subst h3;rw [if_pos rfl] at h ⊢;simp only [EL,Eo] at h
  obtain ⟨z0,z1⟩:=t6 h.1 h.2;obtain ⟨n0,n1⟩:=h;go_enter Tryz.func176,Tryz.ntmps176
  go_wp2_with fail
  refine (D9 N _ (by omega) (by omega)).mono ?_;rintro r w' ⟨rfl,rfl⟩;go_wp2_with fail
  refine (mN (zigN N) _ z0 (by omega)).mono ?_;rintro r w2 ⟨rfl,hb2⟩;have HB2:=hid (((Below.refl _ _).alloc (Db _) _).trans (hb2.mono (by simp)));clear hb2;go_wp2;go_ret;exact ⟨rfl,HB2.out⟩
 ·rw [if_neg h3] at h ⊢;have b1:(K == 3)=false:=by simpa using h3
  by_cases h4:K=4
  ·subst h4;rw [if_pos rfl] at h ⊢;simp only [EL,Eo] at h
   obtain ⟨n0,n1⟩:=h;have hw:IntKind.u64.wrap N=N:=DI N ⟨by omega,by omega⟩;go_enter Tryz.func176,Tryz.ntmps176
   go_wp2_with fail
   refine (mN N _ n0 (by omega)).mono ?_;rintro r w2 ⟨rfl,hb2⟩;have HB2:=hid (((Below.refl _ _).alloc (Db _) _).trans (hb2.mono (by simp)));clear hb2;go_wp2;go_ret;exact ⟨rfl,HB2.out⟩
  ·rw [if_neg h4];have b4:(K == 4)=false:=by simpa using h4
   go_enter Tryz.func176,Tryz.ntmps176
   go_wp2;go_ret;exact ⟨rfl,(Below.refl _ _).alloc (Db _) _⟩
def Bn (r:ByteArray×Nat):Value:=.tuple #[.string r.1,errV r.2]
theorem D0 (T R K:Int) (key val:ByteArray) (N:Int) (w:World) (hk:key.size≤140737488351232) (hv:val.size≤140737488351232) :
 Calls Tryz.prog 137 #[.agg #[.int .i64 T,.int .i64 R,.int .i64 K,.string key,.string val,.int .i64 N]] w fun e w'=>e=.returned (Bn (kF T R K key val N))∧Below w.heap.size w w':=by
 have HN0:=hid (fj w T R K key val N 78);obtain ⟨E,hE⟩:∃ E,wriE T R K key val N=E:=⟨_,rfl⟩;have HE:=hid hE;clear hE;go_enter Tryz.func137,Tryz.ntmps137
 go_wp2_with fail
 refine (oj T R K key val N _ hk hv).mono ?_;rintro r w1 ⟨rfl,hb1⟩;rw [HE.out];have HA1:=hid (HN0.out.below hb1 (by simp));have HB1:=hid (((Below.refl _ _).alloc (Db _) _).trans (hb1.mono (by simp)));have HL1:Hid (w.heap.size<w1.heap.size):=hid (by have:=hb1.size;simp at this;exact this);clear hb1;by_cases h0:E=0
 ·subst h0;have HT:=hid (kG HE.out);obtain ⟨g1,g2,g3,g4,g5,g6⟩:=j7 HE.out;have G6:=hid g6;have G4:=hid g4;clear g1 g2 g3 g5 g6;obtain ⟨c0,c1,c2,c3,c4,c5⟩:=HA1.out;rw [show errV 0=Value.nilIface from rfl];go_wp2_with fail
  refine (Cy T R K key val N _ G6.out).mono ?_;rintro r w2 ⟨rfl,hb2⟩;have HA2:=hid (HA1.out.below hb2 HL1.out);have HB2:=hid (HB1.out.trans (hb2.mono (DG HL1.out)));have hp:=qh G6.out;obtain ⟨P,hP⟩:∃ P,numB K N=P:=⟨_,rfl⟩;rw [hP] at hp ⊢;have HP:=hid hP;clear hb2 c0 c1 c2 c3 c4 c5 hP;obtain ⟨c0,c1,c2,c3,c4,c5⟩:=HA2.out;cases hV:hasV K with
  | false =>
   have HR:Hid (b7 K val N=P):=hid (show _=_ by
    unfold b7 valB;rw [HP.out,hV,if_neg (by decide)];exact cX (by rw [bE];simp))
   go_wp2_with (go_at_call 177;refine (dS K false _ hV).mono ?_;rintro r w3 ⟨rfl,rfl⟩)
   go_ret2;rw [HT.out,HR.out];exact ⟨rfl,HB2.out⟩
  | true =>
   have HR:Hid (b7 K val N=P++bT val):=hid (show _=_ by unfold b7 valB;rw [HP.out,hV,if_pos rfl]);have hs:=n4 g4;obtain ⟨S,hS⟩:∃ S,bT val=S:=⟨_,rfl⟩;rw [hS] at hs HR;have HS:=hid hS;clear hS;go_wp2_with (first
    | (go_at_call 177;refine (dS K true _ hV).mono ?_;rintro r w3 ⟨rfl,rfl⟩)
    | (go_at_call 134;refine (rx val _ (Dl G4.out (by decide))).mono ?_;rintro r w4 ⟨rfl,hb4⟩;have HB4:=hid (HB2.out.trans (hb4.mono HB2.out.size));clear hb4;rw [HS.out]))
   go_ret2;rw [HT.out,HR.out];exact ⟨rfl,HB4.out⟩
 ·have HT:=hid (rV (by rw [HE.out];exact h0));rw [dy h0];go_wp2;go_ret2;rw [HT.out,HE.out];refine ⟨?_,HB1.out⟩;show _=Ending.returned (.tuple #[.string ⟨#[]⟩,errV E])
  rw [dy h0]
  rfl
end
section
open Go.RowKit
theorem wX (w:World):Calls Tryz.prog 32 #[] w fun e w'=>e=.returned (.agg #[.int .i64 0,.int .i64 (-1)])∧Below w.heap.size w w':=by
 go_enter Tryz.func32,Tryz.ntmps32
 go_wp2;refine Dc (v:=.agg #[.int .i64 0,.int .i64 (-1)]) (by simp [results,Tryz.results32,go_sem]) rfl ?_;exact ⟨rfl,(Below.refl _ _).alloc (Db _) _⟩
theorem wU (n:Int) (w:World):Calls Tryz.prog 12 #[.int .i64 n] w fun e w'=>e=.returned (.agg #[.int .i64 n,.int .i64 (-1)])∧Below w.heap.size w w':=by
 go_enter Tryz.func12,Tryz.ntmps12
 go_wp2;refine Dc (v:=.agg #[.int .i64 n,.int .i64 (-1)]) (by simp [results,Tryz.results12,go_sem]) rfl ?_;exact ⟨rfl,(Below.refl _ _).alloc (Db _) _⟩
def tg (w:World) (r:List ByteArray×Nat×Int) (e:Ending) (w':World):Prop :=
 ∃ v,e=.returned (.tuple #[v,.agg #[.int .i64 (r.2.1:Nat),.int .i64 r.2.2]])∧ak w' w.heap.size v r.1∧Below w.heap.size w w'
def cr (w:World):World:=w.alloc (.cells #[.int .i64 0,.int .i64 0] 28)
theorem gW (w:World):(cr w).heap.size=w.heap.size+1:=by simp [cr]
theorem gV {w wr:World} (h:Below (w.heap.size+1) (cr w) wr):wr.cell? ⟨w.heap.size,0,none⟩=some (.int .i64 0)∧wr.cell? ⟨w.heap.size,1,none⟩=some (.int .i64 0)∧wr.frozen? ⟨w.heap.size,0,none⟩=false∧wr.frozen? ⟨w.heap.size,1,none⟩=false :=
 ⟨(h.cell (by exact Du _)).trans (by simp [cr]),(h.cell (by exact Du _)).trans (by simp [cr]),(h.frozen (by exact Du _)).trans (by simp [cr]),(h.frozen (by exact Du _)).trans (by simp [cr])⟩
theorem gU {w wr:World} (h:Below (w.heap.size+1) (cr w) wr) (e p:Value):Below w.heap.size w ((wr.setCell ⟨w.heap.size,0,none⟩ e).setCell ⟨w.heap.size,1,none⟩ p) :=
 (((Below.refl _ _).alloc (Db _) _).trans ((h.mono (Dq _)).setCell (Db _) _)).setCell (Db _) _
theorem Bh {T:List ByteArray} {s x:ByteArray} {q:Nat} (h:s ∉ T.take q) (hx:T[q]? = some x) (hn:x≠s):s ∉ T.take (q+1):=by
 obtain ⟨hq,e⟩:=Do.1 hx;rw [←EC hq,e];simp only [Ef,Ek,not_or]
 exact ⟨h,fun e=>hn e.symm⟩
theorem Bg {T:List ByteArray} {s:ByteArray} {q k:Nat} (hx:T[q]? = some s) (hq:q<k):s∈T.take k :=
 DB (i:=q) (by rw [EP hq];exact hx)
theorem zU (v u:Value) (T:List ByteArray) (l:List Int) (w:World) (hv:ba w v T) (hu:bW w u l) (hT:T.length≤1000000) (hl:l.length≤1000000) :
 Calls Tryz.prog 66 #[v,u] w (tg w (aT T l)):=by
 have hv0:ba (cr w) v T:=hv.alloc _;have hu0:bW (cr w) u l:=hu.alloc _;obtain ⟨a1,c1,rfl,_,f1⟩:=hv0;obtain ⟨a2,c2,rfl,_,f2⟩:=hu0;rw [gW] at f1 f2;have F1:=hid f1;have F2:=hid f2;obtain ⟨m,hm⟩:∃ m,m=T.length:=⟨_,rfl⟩;obtain ⟨n,hn⟩:∃ n,n=l.length:=⟨_,rfl⟩;rw [←hm] at hT ⊢;rw [←hn] at hl ⊢;have HM:=hid hm;have HN:=hid hn;clear f1 f2 hm hn hv hu;go_enter Tryz.func66,Tryz.ntmps66
 go_wp2
 go_loopw [14] (fun i wr=>∃ k:Nat,k≤m∧i=.int .i64 k∧dupG [] T 0=dupG (T.take k) (T.drop k) k∧Below (w.heap.size+1) (cr w) wr) (fun i _=>m-(intOf i).toNat)
 case atStart=>exact ⟨0,Ds _,rfl,rfl,Below.refl _ _⟩
 case round =>
  obtain ⟨k,hk,rfl,hd,hbel⟩:=hrel;have HD:=hid hd;have HB:=hid hbel;obtain ⟨wp,hwp⟩:∃ wp,wp=wr:=⟨_,rfl⟩;rw [←hwp] at HB ⊢;clear hd hbel hwp;by_cases hlt:k<m
  ·obtain ⟨s, hs⟩ : ∃ s, T[k]? = some s := ⟨T[k]'(by have := HM.out; omega), Di _⟩;have HS:=hid hs;clear hs;go_wp2
   go_loopw [18] (fun i wo=>∃ q:Nat,q≤k∧i=.int .i64 q∧s ∉ T.take q∧Below (w.heap.size+1) (cr w) wo) (fun i _=>k-(intOf i).toNat)
   case atStart=>exact ⟨0,Ds _,rfl,by simp,HB.out⟩
   case round =>
    obtain ⟨q,hq,rfl,hnot,hbel⟩:=hrel;have HBO:=hid hbel;have HNOT:=hid hnot;clear hbel hnot;by_cases hlt2:q<k
    ·obtain ⟨x, hx⟩ : ∃ x, T[q]? = some x := ⟨T[q]'(by have := HM.out; omega), Di _⟩;obtain ⟨b1,o1,rfl,hb1,p0⟩:=F1.out q x hx;obtain ⟨b2,o2,e2,_,p1⟩:=F1.out k s HS.out;simp only [E1,Eq,and_true] at e2
     obtain ⟨rfl,rfl⟩:=e2;have q0:=(HBO.out.cell (p:=⟨b1,o1+q,none⟩) hb1).trans p0;have q1:=(HBO.out.cell (p:=⟨b1,o1+k,none⟩) hb1).trans p1;obtain ⟨c0,c1',f0,f1⟩:=gV HBO.out;by_cases he:x=s
     ·have HR:Hid (aT T l=([],9,(k:Int))):=hid (show _=_ by unfold aT;rw [HD.out,pj HS.out (Bg (he ▸ hx) hlt2)]);subst he;have hb:=oF x;clear p0 p1 hx HNOT;go_wp2
      go_quiet (fail)
      obtain ⟨wq,hwq⟩:∃ wq,wq=World.drewN wr nq:=⟨_,rfl⟩;rw [←hwq];have HBQ:Hid (Below (w.heap.size+1) (cr w) wq):=hid (by rw [hwq];exact HBO.out.trans ⟨rfl,rfl,rfl,Db _,fun _ _=>rfl⟩);clear hwq c0 c1' f0 f1 q0 q1;obtain ⟨d0,d1,g0,g1⟩:=gV HBQ.out;go_wp2;refine Dc (v:=.tuple #[.slice none 0 0,.agg #[.int .i64 9,.int .i64 k]]) (by simp [results,Tryz.results66,go_sem,d0,d1]) rfl ?_;rw [HR.out];exact ⟨_,rfl,bK _ _,gU HBQ.out _ _⟩
     ·have HNOT2:=hid (Bh HNOT.out hx he);have hb:=oE he;clear p0 p1 hx HNOT c0 c1' f0 f1;go_wp2
      go_quiet (fail)
      obtain ⟨wq,hwq⟩:∃ wq,wq=World.drewN wr nq:=⟨_,rfl⟩;rw [←hwq];have HBQ:Hid (Below (w.heap.size+1) (cr w) wq):=hid (by rw [hwq];exact HBO.out.trans ⟨rfl,rfl,rfl,Db _,fun _ _=>rfl⟩);clear hwq q0 q1;go_wp2;go_roundw
      case rel=>exact ⟨q+1,by omega,by go_num,HNOT2.out,HBQ.out⟩
      case measure=>simp [intOf];omega
    ·obtain rfl:q=k:=by omega
     have HD2:=hid (HD.out.trans (pk HS.out HNOT.out));go_wp2;go_roundw
     case rel=>exact ⟨q+1,by omega,by go_num,HD2.out,HBO.out⟩
     case measure=>simp [intOf];omega
  ·obtain rfl:k=m:=by omega
   have HDN:Hid (dupG [] T 0=none):=hid (show _=_ by rw [HD.out,DD (by rw [HM.out];exact Db _)];rfl);have HLE:Hid (∀ e p,ordG k 0 l 0=(e,p)→e≠0→aT T l=([],e,p)):=hid (show _ by
    intro e p h he;unfold aT;rw [HDN.out,←HM.out,h];simp only [if_neg he])
   have HLO:Hid ((ordG k 0 l 0).1=0→aT T l=(outG T l,0,-1)):=hid (show _ by
    intro h;unfold aT;rw [HDN.out,←HM.out];simp only [if_pos h])
   have hmm:=@run_makeMap Tryz.prog;obtain ⟨M,hM⟩:∃ M,M=wp.heap.size:=⟨_,rfl⟩;have HMS:=hid hM;have HBM:Hid (w.heap.size+1≤M):=hid (by rw [hM];have:=HB.out.size;rw [gW] at this;exact this);clear hM;go_wp2
   go_loopw [8,37] (fun x i wo=>∃ q told:Nat,q≤n∧told≤q∧i=.int .i64 q∧ordG k 0 l 0=ordG k told (l.drop q) q∧cx wo wp.heap.size q told∧ak wo (M+1) x (outG T (l.take q))∧M+1≤wo.heap.size∧Below (w.heap.size+1) (cr w) wo) (fun _ i _=>n-(intOf i).toNat)
   case atStart=>exact ⟨0,0,Ds _,Db _,rfl,rfl,yH _,bK _ _,by rw [HMS.out];simp,HB.out.alloc (by have:=HB.out.size;rw [gW] at this;exact this) _⟩
   case round =>
    obtain ⟨q,told,hq,htq,rfl,hd,hmap,hos,hz,hbel⟩:=hrel;have HO2:=hid hd;have HMP:=hid hmap;have HOS:=hid hos;have HZ:=hid hz;have HBO:=hid hbel;clear hd hmap hos hz hbel;by_cases hlt:q<n
    ·obtain ⟨z, hz⟩ : ∃ z, l[q]? = some z := ⟨l[q]'(by have := HN.out; omega), Di _⟩;obtain ⟨b2,o2,rfl,hb2,p2⟩:=F2.out q z hz;have q2:=(HBO.out.cell (p:=⟨b2,o2+q,none⟩) hb2).trans p2;obtain ⟨c0,c1',f0,f1⟩:=gV HBO.out;have HC:=hid (Dp c0 (Dp c1' (Dp f0 f1)));by_cases hr:z<0∨(k:Int)≤z
     ·have HR:=hid (HLE.out 2 q (HO2.out.trans (qA hz hr)) (by decide));clear p2 hz c0 c1' f0 f1;go_wp2_with fail
      have hw:Calls Tryz.prog 27 #[.int .i64 z,.int .i64 0,.int .i64 ((k:Int)-1)] wr fun e w'=>e=.returned (.bool false)∧wr=w':=by
       by_cases h0:z<0
       ·exact bV z 0 _ wr h0
       ·exact bU z 0 _ wr (by omega) (by omega)
      refine hw.mono ?_;rintro r w3 ⟨rfl,rfl⟩;obtain ⟨c0,c1',f0,f1⟩:=HC.out;clear hw;go_wp2;refine Dc (v:=.tuple #[.slice none 0 0,.agg #[.int .i64 2,.int .i64 q]]) (by simp [results,Tryz.results66,go_sem,c0,c1']) rfl ?_;rw [HR.out];exact ⟨_,rfl,bK _ _,gU HBO.out _ _⟩
     ·have z0:¬ z<0:=by omega
      have z1:¬ (k:Int)≤z:=by omega
      obtain ⟨j,rfl⟩:∃ j:Nat,z=j:=⟨z.toNat,by omega⟩;have hjk:j<k:=by omega
      have hj6:j≤1000000:=by omega
      by_cases hf:(told:Int)<(j:Int)
      ·have HR:=hid (HLE.out 13 q (HO2.out.trans (qx hz hr hf)) (by decide));clear p2 hz c0 c1' f0 f1 hr z0 z1;go_wp2_with fail
       refine (aQ (j:Int) 0 ((k:Int)-1) wr (by omega) (by omega)).mono ?_;rintro r w3 ⟨rfl,rfl⟩;obtain ⟨c0,c1',f0,f1⟩:=HC.out;go_wp2_with (at_len;refine lk rfl _ rfl wp.heap.size q told rfl HMP.out ?_)
       refine Dc (v:=.tuple #[.slice none 0 0,.agg #[.int .i64 13,.int .i64 q]]) (by simp [results,Tryz.results66,go_sem,c0,c1']) rfl ?_;rw [HR.out];exact ⟨_,rfl,bK _ _,gU HBO.out _ _⟩
      ·have htn : ordG k told (l.drop q) q = ordG k (if j = told then told + 1 else told) (l.drop (q + 1)) (q + 1) := by
        by_cases he:j=told
        ·rw [if_pos he];exact qy hz hr (by omega)
        ·rw [if_neg he];exact qz hz hr (by omega)
       have HO3:=hid (HO2.out.trans htn);obtain ⟨s, hs⟩ : ∃ s, T[j]? = some s := ⟨T[j]'(by have := HM.out; omega), Di _⟩;obtain ⟨b3,o3,rfl,hb3,p3⟩:=F1.out j s hs;have HX:=hid (qC hz hs);have hz2:(outG T (l.take q)).length=q:=by unfold outG;rw [E9,DK];have:=HN.out;omega
       have HZ2:=hid hz2;have HP3:=hid p3;have HB3:=hid hb3;clear p2 hz c0 c1' f0 f1 hr z0 z1 htn hs hz2 p3 hb3;go_wp2_with fail
       refine (aQ (j:Int) 0 ((k:Int)-1) wr (by omega) (by omega)).mono ?_;rintro r w3 ⟨rfl,rfl⟩;have hjt:j≤told:=by omega
       go_wp2_with (first
        | (at_len;refine lk rfl _ rfl wp.heap.size q told rfl HMP.out ?_)
        | (at_mapUpdate;refine CI rfl _ _ _ rfl wp.heap.size q told rfl HMP.out (by unfold maxLen;omega) j hjt (by omega) rfl rfl ?_;intro w4 hm4 hg4;obtain ⟨t2,ht2⟩:∃ t2,(if j=told then told+1 else told)=t2:=⟨_,rfl⟩;rw [ht2] at hm4 HO3;have HM4:=hid hm4;have HS4:=hid (show ak w4 (M+1) _ (outG T (l.take q)) from Dt HOS.out hg4 (.inr (HOS.out.off (by rw [HMS.out];exact Du _))));have HB4:Hid (Below (w.heap.size+1) (cr w) w4):=hid (HBO.out.grown hg4 (by have:=HBO.out.size;rw [gW] at this;exact this) (fun g hg=>by cases hg;rw [←HMS.out];exact HBM.out));have HZ4:Hid (M+1≤w4.heap.size):=hid (Dl HZ.out hg4.size);have q3:w4.cell? ⟨b3,o3+j,none⟩=some (.string s):=(HB4.out.cell (p:=⟨b3,o3+j,none⟩) HB3.out).trans HP3.out;clear hm4 hg4)
        | (at_builtin;refine fi rfl _ _ rfl (M+1) _ (outG T (l.take q)) rfl (HS4.out.alloc _) ⟨w4.heap.size,0,none⟩ 1 rfl s (by simp [Addr.add]) (by have:=HZ2.out;omega) (by have:=HZ4.out;simp;omega) ?_))
       intro g cap w5 ho5 hg5;have HB5:Hid (Below (w.heap.size+1) (cr w) w5):=hid ((HB4.out.alloc (by have:=HB4.out.size;rw [gW] at this;exact this) _).grown hg5 (by have:=HZ4.out;have:=HBM.out;simp;omega) (fun g hg=>by have:=(HS4.out.lt g hg).1;have:=HBM.out;omega));have HM5:Hid (cx w5 wp.heap.size (q+1) t2):=hid ((HM4.out.alloc _).kept hg5 (by intro e;exact HS4.out.off (by rw [HMS.out];exact Du _) e.symm));have HZ5:Hid (M+1≤w5.heap.size):=hid (by show _≤_;have:=HZ4.out;have:=hg5.size;simp at this;omega);rw [←HX.out] at ho5;have HS5:=hid ho5;have ht3:t2≤q+1:=by rw [←ht2];split <;> omega
       have HT3:=hid ht3;clear ho5 hg5 ht2 ht3;go_wp2;go_roundw
       case rel=>exact ⟨q+1,t2,by omega,HT3.out,by go_num,HO3.out,HM5.out,HS5.out,HZ5.out,HB5.out⟩
       case measure=>simp [intOf];omega
    ·obtain rfl:q=n:=by omega
     have hlk:l.take q=l:=DL (by rw [HN.out];exact Db _);have HO3:=hid (show ak wr (M+1) _ (outG T l) from hlk ▸ HOS.out);have HE:Hid (ordG k 0 l 0=if told<k then (8,-1) else (0,-1)):=hid (show _=_ by rw [HO2.out,DD (by rw [HN.out];exact Db _)];rfl);have hlt0:w.heap.size<wr.heap.size:=by have:=HZ.out;have:=HBM.out;omega
     have HL0:=hid hlt0;clear hlk hlt0;by_cases ht:told<k
     ·have HR:=hid (HLE.out 8 (-1) (by rw [HE.out,if_pos ht]) (by decide));go_wp2_with (at_len;refine lk rfl _ rfl wp.heap.size q told rfl HMP.out ?_)
      refine (wU 8 _).mono ?_;rintro r w5 ⟨rfl,hb5⟩;have HB5:=hid (HBO.out.trans (hb5.mono (Nat.succ_le_of_lt HL0.out)));clear hb5;obtain ⟨c0,c1',f0,f1⟩:=gV HB5.out;go_wp2;refine Dc (v:=.tuple #[.slice none 0 0,.agg #[.int .i64 8,.int .i64 (-1)]]) (by simp [results,Tryz.results66,go_sem,c0,c1']) rfl ?_;rw [HR.out];exact ⟨_,rfl,bK _ _,gU HB5.out _ _⟩
     ·have HR:=hid (HLO.out (by rw [HE.out,if_neg ht]));go_wp2_with (at_len;refine lk rfl _ rfl wp.heap.size q told rfl HMP.out ?_)
      refine (wX _).mono ?_;rintro r w5 ⟨rfl,hb5⟩;have HB5:=hid (HBO.out.trans (hb5.mono (Nat.succ_le_of_lt HL0.out)));have HO5:=hid (HO3.out.below hb5);clear hb5;obtain ⟨c0,c1',f0,f1⟩:=gV HB5.out;go_wp2;refine Dc (v:=.tuple #[_,.agg #[.int .i64 0,.int .i64 (-1)]]) (by simp [results,Tryz.results66,go_sem,c0,c1'];rfl) rfl ?_;rw [HR.out];exact ⟨_,rfl,(show ak _ _ _ _ from ownsRow_setCell_below (ownsRow_setCell_below HO5.out (by show w.heap.size<M+1;have:=HBM.out;omega) _) (by show w.heap.size<M+1;have:=HBM.out;omega) _).mono (by have:=HBM.out;omega),gU HB5.out _ _⟩
end
section
open Go.RowKit
theorem qm {l:List Ent} {k:Nat} {t:Ent} (h:l[k]? = some t) (x:Int):ofF (l.drop k) x=if t.rep=x then t.time else ofF (l.drop (k+1)) x:=by
 obtain ⟨hk,ht⟩:=Do.1 h;rw [DA hk,ht];rfl
theorem Cf (v:Value) (l:List Ent) (x:Int) (w:World) (hv:ae w v l) (hl:l.length≤9223372036854775807) :
 Calls Tryz.prog 195 #[v,.int .i64 x] w fun r w'=>r=.returned (.int .i64 (ofF l x))∧Below w.heap.size w w':=by
 obtain ⟨a1,c1,rfl,f1⟩:=hv.form;have F1:=hid f1;obtain ⟨n,hn⟩:∃ n,n=l.length:=⟨_,rfl⟩;rw [←hn] at hl ⊢;have HN:=hid hn;clear hv f1 hn;go_enter Tryz.func195,Tryz.ntmps195
 go_wp2
 go_loopw [9] (fun i wr=>∃ k:Nat,k≤n∧i=.int .i64 k∧ofF l x=ofF (l.drop k) x∧Below w.heap.size w wr) (fun i _=>n-(intOf i).toNat)
 case atStart=>exact ⟨0,by omega,rfl,rfl,Below.refl _ _⟩
 case round =>
  obtain ⟨k,hk,rfl,heq,hbel⟩:=hrel;have HEQ:=hid heq;have HB:=hid hbel;have hzr:=hbel.size;clear heq hbel;by_cases hlt:k<n
  ·obtain ⟨t, ht⟩ : ∃ t, l[k]? = some t := ⟨l[k]'(by have := HN.out; omega), Di _⟩;obtain ⟨b1,o1,rfl,hb1,p0,p1⟩:=F1.out k t ht;have hd:=qm ht x;obtain ⟨rep,time⟩:=t;simp only at p0 p1 hd
   have q0:=(HB.out.cell (p:=⟨b1,o1+k * 2,none⟩) hb1).trans p0;have q1:=(HB.out.cell (p:=⟨b1,o1+k * 2+1,none⟩) hb1).trans p1;by_cases hx:rep=x
   ·have HW:Hid (ofF l x=time):=hid (show ofF l x=time by rw [HEQ.out,hd,if_pos hx]);clear p0 p1 ht hd;subst hx;go_wp2;go_ret;exact ⟨by rw [HW.out];rfl,HB.out.alloc hzr _⟩
   ·have HW:Hid (ofF l x=ofF (l.drop (k+1)) x):=hid (show ofF l x=ofF (l.drop (k+1)) x by rw [HEQ.out,hd,if_neg hx]);have bx:(rep == x)=false:=by simpa using hx
    clear p0 p1 ht hd;go_wp2;go_roundw
    case rel=>exact ⟨k+1,by omega,by go_num,HW.out,HB.out.alloc hzr _⟩
    case measure=>simp [intOf];omega
  ·have HW:Hid (ofF l x=0):=hid (show ofF l x=0 by rw [HEQ.out,DD (by have:=HN.out;omega)];rfl);go_wp2;go_ret;exact ⟨by rw [HW.out];rfl,HB.out⟩
theorem zX (v:Value) (l:List Ent) (x:Int) (w:World) (hv:ae w v l) (hl:l.length≤9223372036854775807) :
 Calls Tryz.prog 101 #[v,.int .i64 x] w fun r w'=>r=.returned (.int .i64 (ofF l x))∧w=w':=by
 obtain ⟨a1,c1,rfl,f1⟩:=hv.form;have F1:=hid f1;obtain ⟨n,hn⟩:∃ n,n=l.length:=⟨_,rfl⟩;rw [←hn] at hl ⊢;have HN:=hid hn;clear hv f1 hn;go_enter Tryz.func101,Tryz.ntmps101
 go_wp2
 go_loop [8] (fun i=>∃ k:Nat,k≤n∧i=.int .i64 k∧ofF l x=ofF (l.drop k) x) (fun i=>n-(intOf i).toNat)
 case atStart=>exact ⟨0,by omega,rfl,rfl⟩
 case round =>
  obtain ⟨k,hk,rfl,heq⟩:=hrel;have HEQ:=hid heq;clear heq;by_cases hlt:k<n
  ·obtain ⟨t, ht⟩ : ∃ t, l[k]? = some t := ⟨l[k]'(by have := HN.out; omega), Di _⟩;obtain ⟨b1,o1,rfl,hb1,p0,p1⟩:=F1.out k t ht;have hd:=qm ht x;obtain ⟨rep,time⟩:=t;simp only at p0 p1 hd
   by_cases hx:rep=x
   ·have HW:Hid (ofF l x=time):=hid (show ofF l x=time by rw [HEQ.out,hd,if_pos hx]);clear ht hd;subst hx;go_wp2;go_ret;exact ⟨by rw [HW.out];rfl,rfl⟩
   ·have HW:Hid (ofF l x=ofF (l.drop (k+1)) x):=hid (show ofF l x=ofF (l.drop (k+1)) x by rw [HEQ.out,hd,if_neg hx]);have bx:(rep == x)=false:=by simpa using hx
    clear ht hd;go_wp2
    go_round
    case rel=>exact ⟨k+1,by omega,by go_num,HW.out⟩
    case measure=>simp [intOf];omega
  ·have HW:Hid (ofF l x=0):=hid (show ofF l x=0 by rw [HEQ.out,DD (by have:=HN.out;omega)];rfl);go_wp2;go_ret;exact ⟨by rw [HW.out];rfl,rfl⟩
def noV (e:Nat):Value:=if e=0 then .nilIface else .iface 26 (.int .i64 (e:Nat))
theorem xH:noV 0=.nilIface:=rfl
theorem jQ {e:Nat} (h:e≠0):noV e=.iface 26 (.int .i64 (e:Nat)):=by unfold noV;rw [if_neg h]
theorem sw (v:Value) (l:List Ent) (w:World) (hv:ae w v l) (hl:l.length≤9223372036854775807) (hg:errT w) :
 Calls Tryz.prog 154 #[v] w fun r w'=>r=.returned (noV (au l).1)∧Below w.heap.size w w':=by
 have HV:=hid hv;have HG:=hid hg;obtain ⟨a1,c1,rfl,_⟩:=hv.form;obtain ⟨n,hn⟩:∃ n,n=l.length:=⟨_,rfl⟩;have HL:=hid hl;rw [←hn] at HV ⊢;clear hv hg hn hl;by_cases h0:(au l).1=0
 ·have H0:=hid h0;clear h0;rw [H0.out];go_enter Tryz.func154,Tryz.ntmps154
  go_wp2_with fail
  refine (de _ l _ HV.out HL.out).mono ?_;rintro r w1 ⟨err,rfl,hat,hb1⟩;obtain rfl:=hat.nil H0.out;have HB1:=hid hb1;clear hat hb1;go_wp2;go_ret;exact ⟨rfl,HB1.out⟩
 ·have H0:=hid h0;have HQ:=hid (jQ h0);clear h0;go_enter Tryz.func154,Tryz.ntmps154
  go_wp2_with fail
  refine (de _ l _ HV.out HL.out).mono ?_;rintro r w1 ⟨err,rfl,hat,hb1⟩;have HE:=hid (hat.isErr H0.out);obtain ⟨t,u,rfl⟩:=hat.iface H0.out;have HB1:=hid hb1;have HG1:=hid (HG.out.below hb1);clear hat hb1;go_wp2_with fail
  refine (e7 _ _ _ HG1.out HE.out).mono ?_;rintro r w2 ⟨rfl,hb2⟩;have HB2:Hid (Below w.heap.size w w2):=HB1.out.trans (hb2.mono HB1.out.size);clear hb2;go_wp2;go_ret;exact ⟨by rw [HQ.out];rfl,HB2.out⟩
end
