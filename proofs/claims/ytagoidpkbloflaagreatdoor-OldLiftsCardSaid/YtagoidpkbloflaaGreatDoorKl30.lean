import Derived.Test.YtagoidpkbloflaaGreatDoorKlq
import Derived.Test.YtagoidpkbloflaaGreatDoorKl29
namespace Go.Proofs.YtagoidpkbloflaaGreatDoor
open Lib (hid)
set_option maxRecDepth 100000
set_option maxHeartbeats 8000000
section
open Go.RowKit
def l8 (w:World):List Deferred :=
 [{ target:=.fn (Fn.func 34) #[],args:=#[.pointer (some ⟨w.heap.size+2,0,none⟩)] },
  { target:=.fn (Fn.func 96) #[.pointer (some ⟨w.heap.size+2,0,none⟩),.pointer (some ⟨w.heap.size,0,none⟩),.pointer (some ⟨w.heap.size+1,0,none⟩)],args:=#[] }]
theorem C8 {w W:World} {lv:Value} {m:Int} {s:List UInt8} (e:Nat) (pl:Int) (h:D3 w W lv m 0 (-1)) (he:e≠0) (hrd:aj s=(e,0,[])) (tmps:Array Value)
 (t2:tmps[2]? = some (.pointer (some ⟨w.heap.size,0,none⟩))) (t3:tmps[3]? = some (.pointer (some ⟨w.heap.size+1,0,none⟩))) (t4:tmps[4]? = some (.pointer (some ⟨w.heap.size+2,0,none⟩))) :
 Leaves Tryz.prog Tryz.f65 tmps (lw w s) (l8 w) (.panicking [{ v:=.iface 119 (.agg #[.int .i64 (e:Int),.int .i64 pl]),recovered:=false }]) W:=by
 obtain ⟨o0,n0,c0,c1,y0,y1,z0,z1⟩:=h.cells;have hbel:=h.2.2.2.1;have hz:=h.2.2.2.2;have hbe:((e:Int) == 0)=false:=by simp;omega
 obtain ⟨W2,hW2⟩:∃ W2,(W.setCell ⟨w.heap.size+2,0,none⟩ (.int .i64 (e:Int))).setCell ⟨w.heap.size+2,1,none⟩ (.int .i64 pl)=W2:=⟨_,rfl⟩;have hz2:W2.heap.size=W.heap.size:=by rw [←hW2];simp
 have h2:D3 w W2 lv m e pl:=by
  rw [←hW2];obtain ⟨r1,r2,r3,r4,r5⟩:=h;refine ⟨?_,?_,?_,(r4.setCell (by simp) _).setCell (by simp) _,by simpa using r5⟩
  ·simp [World.setCell,Dw,r1]
  ·simp [World.setCell,Dw,r2]
  ·simp [World.setCell,Dw,r3]
 obtain ⟨W3,hW3⟩:∃ W3,W2.alloc (.cells #[.int .i64 (e:Int),.int .i64 pl] 119)=W3:=⟨_,rfl⟩;have h3:D3 w W3 lv m e pl:=by rw [←hW3];exact h2.kept (E5 W2 _ none) (fun k hk=>by cases hk)
 have hz3:=h3.2.2.2.2;obtain ⟨p0,p1,p2,p3,q0,q1,q2,q3⟩:=h3.cells;unfold l8;refine DW (f:=34) (args:=#[.pointer (some ⟨w.heap.size+2,0,none⟩)]) (by simp) (by simp [go_sem]) ?_;refine (jq (w.heap.size+2) e pl 0 (-1) [] W (by omega) c0 c1 z0 z1).mono ?_;rintro r u' w2 ⟨rfl,rfl,rfl⟩;rw [hW2,hW3];refine DW (f:=96) (args:=#[.pointer (some ⟨w.heap.size+2,0,none⟩),.pointer (some ⟨w.heap.size,0,none⟩),.pointer (some ⟨w.heap.size+1,0,none⟩)]) (by simp [settle]) (by simp [go_sem]) ?_;refine (Cj (w.heap.size+2) w.heap.size (w.heap.size+1) e pl m lv _ _ hbe p2 p3 (by omega) (by omega) (by omega) (by omega) (by omega) (by omega) p0 p1 q0 q1 q2 q3).mono ?_;rintro r u' w4 ⟨rfl,rfl,w5,hb5,rfl⟩;have h5:D3 w w5 lv m e pl:=h3.kept (ag hb5) (fun k hk=>by cases hk);obtain ⟨r1,r2,r3,r4,r5⟩:=h5;have h6:D3 w ((((w5.setCell ⟨w.heap.size,0,none⟩ (.slice none 0 0)).setCell ⟨w.heap.size+1,0,none⟩ (.int .i64 0)).setCell ⟨w.heap.size+2,0,none⟩ (.int .i64 e)).setCell ⟨w.heap.size+2,1,none⟩ (.int .i64 (-1))) (.slice none 0 0) 0 e (-1):=by
  refine ⟨?_,?_,?_,(((r4.setCell (by simp) _).setCell (by simp) _).setCell (by simp) _).setCell (by simp) _,by simpa using r5⟩
  ·simp [World.setCell,Dw,r1]
  ·simp [World.setCell,Dw,r2]
  ·simp [World.setCell,Dw,r3]
 obtain ⟨v0,v1,v2,v3,_⟩:=h6.cells;refine ⟨.tuple #[.slice none 0 0,.int .i64 0,.agg #[.int .i64 (e:Int),.int .i64 (-1)]],by simp [results,Tryz.results65,go_sem,t2,t3,t4,v0,v1,v2,v3],.slice none 0 0,?_,?_,h6.2.2.2.1⟩
 ·rw [hrd];rfl
 ·rw [hrd];exact cm _ _
theorem C9 {w W:World} {lv:Value} {n:Nat} {l:List Ent} {s:List UInt8} (h:D3 w W lv n 0 (-1)) (ho:ai W (w.heap.size+3) lv l) (hrd:aj s=(0,n,l)) (tmps:Array Value)
 (t2:tmps[2]? = some (.pointer (some ⟨w.heap.size,0,none⟩))) (t3:tmps[3]? = some (.pointer (some ⟨w.heap.size+1,0,none⟩))) (t4:tmps[4]? = some (.pointer (some ⟨w.heap.size+2,0,none⟩))) :
 Leaves Tryz.prog Tryz.f65 tmps (lw w s) (l8 w) .returning W:=by
 obtain ⟨_,_,c0,c1,_⟩:=h.cells;unfold l8;refine DW (f:=34) (args:=#[.pointer (some ⟨w.heap.size+2,0,none⟩)]) (by simp) (by simp [go_sem]) ?_;refine (jp _ W).mono ?_;rintro r u' w2 ⟨rfl,rfl,rfl⟩;refine DW (f:=96) (args:=#[.pointer (some ⟨w.heap.size+2,0,none⟩),.pointer (some ⟨w.heap.size,0,none⟩),.pointer (some ⟨w.heap.size+1,0,none⟩)]) (by simp [settle]) (by simp [go_sem]) ?_;refine (Ck (w.heap.size+2) w.heap.size (w.heap.size+1) (-1) _ _ c0 c1).mono ?_;rintro r u' w3 ⟨rfl,rfl,hb3⟩;have h3:=h.kept (ag hb3) (fun k hk=>by cases hk);obtain ⟨v0,v1,v2,v3,_⟩:=h3.cells;refine ⟨.tuple #[lv,.int .i64 (n:Int),.agg #[.int .i64 0,.int .i64 (-1)]],by simp [results,Tryz.results65,go_sem,t2,t3,t4,v0,v1,v2,v3],lv,?_,?_,h3.2.2.2.1⟩
 ·rw [hrd];rfl
 ·rw [hrd];exact (ho.below hb3).mono (by omega)
theorem wu (W:World) (b o:Nat) (x:Value):W.grownBy (W.setCell ⟨b,o,none⟩ x) (some b) :=
 ⟨rfl,rfl,rfl,by simp,fun k hk hne=>by
  have hk2:b≠k:=fun e=>hne (by rw [e])
  simp only [World.setCell,Dw,if_neg hk2]⟩
theorem iy {W:World} {base b o:Nat} {v x:Value} {l:List Ent} (ho:ai W base v l) (hb:b<base):ai (W.setCell ⟨b,o,none⟩ x) base v l :=
 fE ho hb (wu W b o x)
theorem D3.over {w W:World} {lv lv':Value} {m m' x pl:Int} (h:D3 w W lv m x pl):D3 w ((((W.setCell ⟨w.heap.size,0,none⟩ lv').setCell ⟨w.heap.size+1,0,none⟩ (.int .i64 m')).setCell ⟨w.heap.size+2,0,none⟩ (.int .i64 x)).setCell ⟨w.heap.size+2,1,none⟩ (.int .i64 pl)) lv' m' x pl:=by
 obtain ⟨r1,r2,r3,r4,r5⟩:=h;refine ⟨?_,?_,?_,(((r4.setCell (by simp) _).setCell (by simp) _).setCell (by simp) _).setCell (by simp) _,by simpa using r5⟩
 ·simp [World.setCell,Dw,r1]
 ·simp [World.setCell,Dw,r2]
 ·simp [World.setCell,Dw,r3]
theorem At (s:ByteArray) (w:World) (hs:s.size≤1000000) :
 Calls Tryz.prog 65 #[.string s] w (lw w s.data.toList):=by
 have hmf:∀ (fn:Fn) (first cap:Array Value) (w:World),(Instr.makeFunc fn first cap).run Tryz.prog w=.ok (.func fn first cap) w:=fun _ _ _ _=>rfl
 go_enter_defers Tryz.func65,Tryz.ntmps65
 go_wp2_with fail
 refine (dF _).mono ?_;rintro r w1 ⟨rfl,hb1⟩;have hz1:w.heap.size+3≤w1.heap.size:=by have:=hb1.size;simpa using this
 have hA:D3 w (((w.alloc (.cells #[.slice none 0 0] 22)).alloc (.cells #[.int .i64 0] 3)).alloc (.cells #[.int .i64 0,.int .i64 0] 28)) (.slice none 0 0) 0 0 0:=by
  refine ⟨?_,?_,?_,(((Below.refl _ _).alloc (Db _) _).alloc (by simp) _).alloc (by simp only [DE];omega) _,by simp⟩
  ·rw [Below.heap_alloc _ _ _ (by simp only [DE];omega),Below.heap_alloc _ _ _ (by simp only [DE];omega)];exact Dg w _
  ·rw [Below.heap_alloc _ _ _ (by simp only [DE];omega)];have h:=Dg (w.alloc (.cells #[.slice none 0 0] 22)) (.cells #[.int .i64 0] 3);simpa using h
  ·have h:=Dg ((w.alloc (.cells #[.slice none 0 0] 22)).alloc (.cells #[.int .i64 0] 3)) (.cells #[.int .i64 0,.int .i64 0] 28);simpa using h
 have h1:=hA.kept (ag hb1) (fun k hk=>by cases hk);obtain ⟨_,_,c0,c1,_,_,f0,f1⟩:=h1.cells;have h2:D3 w ((w1.setCell ⟨w.heap.size+2,0,none⟩ (.int .i64 0)).setCell ⟨w.heap.size+2,1,none⟩ (.int .i64 (-1))) (.slice none 0 0) 0 0 (-1):=by
  obtain ⟨r1,r2,r3,r4,r5⟩:=h1;refine ⟨?_,?_,?_,(r4.setCell (by simp) _).setCell (by simp) _,by simpa using r5⟩
  ·simp [World.setCell,Dw,r1]
  ·simp [World.setCell,Dw,r2]
  ·simp [World.setCell,Dw,r3]
 have H2:=hid h2;clear hb1 hA h1 h2;have HS0:Hid (Sc (((w1.setCell ⟨w.heap.size+1+1,0,none⟩ (.int .i64 0)).setCell ⟨w.heap.size+1+1,1,none⟩ (.int .i64 (-1))).alloc (.cells #[.string s,.int .i64 0] 68)) w1.heap.size s 0):=hid (by
  have h:=Dg ((w1.setCell ⟨w.heap.size+1+1,0,none⟩ (.int .i64 0)).setCell ⟨w.heap.size+1+1,1,none⟩ (.int .i64 (-1))) (.cells #[.string s,.int .i64 0] 68);unfold Sc
  simpa using h)
 have H3:=hid (H2.out.kept (E5 _ (.cells #[.string s,.int .i64 0] 68) none) (fun k hk=>by cases hk));go_wp2_with fail
 refine (vq w1.heap.size s _ HS0.out hs).mono ?_;rintro r w2 ⟨hg,hc⟩;have h4:=H3.out.kept hg (fun k hk=>by cases hk;exact hz1);have H4:=hid h4;rcases hc with ⟨v,n,l,hv,rfl,ho,hsc⟩ | ⟨x,pl,hv,hx,rfl⟩
 ·obtain ⟨ad, cc, rfl⟩ : ∃ ad cc, v = .slice ad l.length cc := by
   obtain ⟨ad,cc,hh,_⟩:=ho.is.form;exact ⟨ad,cc,hh⟩
  have h5:D3 w (w2.setCell ⟨w.heap.size,0,none⟩ (.slice ad l.length cc)) (.slice ad l.length cc) 0 0 (-1):=by
   obtain ⟨r1,r2,r3,r4,r5⟩:=h4;refine ⟨?_,?_,?_,r4.setCell (by simp) _,by simpa using r5⟩
   ·simp [World.setCell,Dw,r1]
   ·simp [World.setCell,Dw,r2]
   ·simp [World.setCell,Dw,r3]
  obtain ⟨o0,_,_,_,y0,_⟩:=h4.cells;obtain ⟨k0,k1,k2,k3,g0,g1,g2,g3⟩:=h5.cells;have k2':(w2.setCell ⟨w.heap.size,0,none⟩ (.slice ad l.length cc)).cell? ⟨w.heap.size+1+1,0,none⟩=some (.int .i64 0):=k2;have k3':(w2.setCell ⟨w.heap.size,0,none⟩ (.slice ad l.length cc)).cell? ⟨w.heap.size+1+1,1,none⟩=some (.int .i64 (-1)):=k3;have g2':(w2.setCell ⟨w.heap.size,0,none⟩ (.slice ad l.length cc)).frozen? ⟨w.heap.size+1+1,0,none⟩=false:=g2;have g3':(w2.setCell ⟨w.heap.size,0,none⟩ (.slice ad l.length cc)).frozen? ⟨w.heap.size+1+1,1,none⟩=false:=g3;have hne:w1.heap.size≠w.heap.size:=by omega
  have sc:(w2.setCell ⟨w.heap.size,0,none⟩ (.slice ad l.length cc)).cell? ⟨w1.heap.size,1,none⟩=some (.int .i64 (n:Int)):=(Er _ _ _ _ (by simp)).trans hsc.cells.2.1;have H5:=hid h5;have HO:=hid ho;have HV:=hid hv;clear h4 h5 ho hv hsc hg;go_wp2;refine E6 ?_;go_region
  all_goals
   refine DT ?_;have HO2:=hid (HO.out.mono (show w.heap.size+3≤_ by simp;omega));have HD:=hid (H5.out.over (lv':=.slice ad l.length cc) (m':=(n:Int)) |>.kept (dn _ 1 none) (fun k hk=>by cases hk));go_wp2;exact C9 HD.out (((((iy HO2.out (by omega) |> fun h=>iy h (by omega)) |> fun h=>iy h (by omega)) |> fun h=>iy h (by omega)) |> fun h=>iy h (by omega)).drewN 1) HV.out _ rfl rfl rfl
 ·exact C8 x pl h4 hx hv _ rfl rfl rfl
end
section
open Go.RowKit
theorem iF {s:List UInt8} {f a e p:Nat} {l:List Tok} {b:List Nat} {pl:Int} (heq:rdF s s.length 0 [] []=rdF s (f+1) a l b) (hlt:a<s.length) (hg:getT (s.drop a)=.inl (e,p)) (hp:((a+p:Nat):Int)=pl):am s=((e,pl),[]):=by
 rw [ke (by rw [heq,iC hlt hg]),hp]
theorem TR.read {w wr w2:World} {lv bv v2:Value} {o:Obj} {l:List Tok} {b:List Nat} {t:Tok} (h:TR w wr lv bv l b) (ho:ax w2 (w.heap.size+2) v2 (l++[t])) (hg:(wr.alloc o).grownBy w2 lv.ownBlock):TR w (w2.setCell ⟨w.heap.size,0,none⟩ v2) v2 bv (l++[t]) b:=by
 obtain ⟨h1,h2,h3,h4,h5,h6⟩:=h;have hne:∀ k,k<w.heap.size+2→some k≠lv.ownBlock:=fun k hk e=>by
  have:=(h3.lt k e.symm).1;omega
 have r0:w2.heap[w.heap.size]? = some (.cells #[lv] 96 (0,0)):=by
  rw [hg.block _ (by simp;omega) (hne _ (by omega)),Below.heap_alloc _ _ _ (by omega)];exact h1
 have r1:w2.heap[w.heap.size+1]? = some (.cells #[.int .i64 0,.int .i64 (-1)] 28 (0,0)):=by
  rw [hg.block _ (by simp;omega) (hne _ (by omega)),Below.heap_alloc _ _ _ (by omega)];exact h2
 have hn:aG w2 (w.heap.size+2) bv b:=Dt (h4.alloc o) hg (jV h4 h3 (show 3≠142 by decide));have hsz:w.heap.size+2≤w2.heap.size:=Dl (by simp;omega) hg.size;refine ⟨?_,?_,ownsRow_setCell_below ho (show w.heap.size<_ by omega) _,ownsRow_setCell_below hn (show w.heap.size<_ by omega) _,?_,by simpa using hsz⟩
 ·simp [World.setCell,Dw,r0]
 ·simp [World.setCell,Dw,r1]
 ·exact ((h5.alloc (by omega) _).grown hg (by simp;omega) (fun g hg=>by have:=(h3.lt g hg).1;omega)).setCell (Db _) _
theorem TR.same {w wr:World} {lv bv:Value} {l:List Tok} {b:List Nat} (h:TR w wr lv bv l b):TR w (((wr.setCell ⟨w.heap.size,0,none⟩ lv).setCell ⟨w.heap.size+1,0,none⟩ (.int .i64 0)).setCell ⟨w.heap.size+1,1,none⟩ (.int .i64 (-1))) lv bv l b:=by
 obtain ⟨h1,h2,h3,h4,h5,h6⟩:=h;refine ⟨?_,?_,?_,?_,((h5.setCell (Db _) _).setCell (Dq _) _).setCell (Dq _) _,by simpa using h6⟩
 ·simp [World.setCell,Dw,h1]
 ·simp [World.setCell,Dw,h2]
 ·exact ownsRow_setCell_below (ownsRow_setCell_below (ownsRow_setCell_below h3 (show w.heap.size<_ by omega) _) (show w.heap.size+1<_ by omega) _) (show w.heap.size+1<_ by omega) _
 ·exact ownsRow_setCell_below (ownsRow_setCell_below (ownsRow_setCell_below h4 (show w.heap.size<_ by omega) _) (show w.heap.size+1<_ by omega) _) (show w.heap.size+1<_ by omega) _
theorem zR (s:ByteArray) (w:World) (hs:s.size≤maxLen) (e:Nat) (h:bkL s.data.toList=(0,0,e)) :
 Calls Tryz.prog 29 #[.string s,.int .i64 1023] w fun r w'=>r=.returned (.tuple #[.int .i64 0,.int .i64 0,.int .i64 e])∧w=w' :=
 (iH s 1023 w hs (by omega) (by omega)).mono fun r w' ⟨h1,h2⟩=>⟨h1.trans (by rw [jj,h];rfl),h2⟩
theorem zS (s:ByteArray) (w:World) (hs:s.size≤maxLen) (n k:Nat) (h:bkL s.data.toList=(n,k,0)) :
 Calls Tryz.prog 29 #[.string s,.int .i64 1023] w fun r w'=>r=.returned (.tuple #[.int .i64 n,.int .i64 k,.int .i64 0])∧w=w' :=
 (iH s 1023 w hs (by omega) (by omega)).mono fun r w' ⟨h1,h2⟩=>⟨h1.trans (by rw [jj,h];rfl),h2⟩
theorem TR.out_kept {w wr w2:World} {lv bv:Value} {o:Obj} {l:List Tok} {b:List Nat} (h:TR w wr lv bv l b) (hg:(wr.alloc o).grownBy w2 lv.ownBlock):w2.cell? ⟨w.heap.size,0,none⟩=some lv∧w2.frozen? ⟨w.heap.size,0,none⟩=false:=by
 obtain ⟨h1,h2,h3,h4,h5,h6⟩:=h;have hne:some w.heap.size≠lv.ownBlock:=fun e=>by
  have:=(h3.lt _ e.symm).1;omega
 have r0:w2.heap[w.heap.size]? = some (.cells #[lv] 96 (0,0)):=by
  rw [hg.block _ (by simp;omega) hne,Below.heap_alloc _ _ _ (by omega)];exact h1
 exact ⟨Dd _ _ 0 _ _ (0,0) r0,Lib.frozen_of_heap r0 0⟩
theorem TR.drew {w wr:World} {lv bv:Value} {l:List Tok} {b:List Nat} (h:TR w wr lv bv l b):TR w wr.drew lv bv l b:=⟨h.1,h.2.1,h.2.2.1,h.2.2.2.1,h.2.2.2.2.1.drew,h.2.2.2.2.2⟩
theorem ww {w w':World} {row:Option Nat} (h:w.drew.grownBy w' row):w.grownBy w' row:=⟨h.os,h.tape,h.output,h.size,h.block⟩
theorem r9 (s:ByteArray) (w:World) (hs:s.size≤400000) :
 Calls Tryz.prog 62 #[.string s] w (lu w s.data.toList):=by
 have hlen:s.data.toList.length=s.size:=(ac s).symm;have HL:=hid hlen;have HS:Hid (s.size≤maxLen):=hid (show s.size≤maxLen by unfold maxLen;omega);have hmf:∀ (fn:Fn) (first cap:Array Value) (w:World),(Instr.makeFunc fn first cap).run Tryz.prog w=.ok (.func fn first cap) w:=fun _ _ _ _=>rfl
 clear hlen
 go_enter_defers Tryz.func62,Tryz.ntmps62
 go_wp2_with fail
 refine (dF _).mono ?_;rintro r w1 ⟨rfl,hb1⟩;have hz1:w.heap.size+2≤w1.heap.size:=by have:=hb1.size;simpa using this
 have r0:w1.heap[w.heap.size]? = some (.cells #[.slice none 0 0] 96 (0,0)):=(hb1.block _ (by simp only [DE];omega)).trans ((Below.heap_alloc _ _ _ (by simp only [DE];omega)).trans (Dg w _));have r1:w1.heap[w.heap.size+1]? = some (.cells #[.int .i64 0,.int .i64 0] 28 (0,0)):=(hb1.block _ (by simp only [DE];omega)).trans (by have h:=Dg (w.alloc (.cells #[.slice none 0 0] 96)) (.cells #[.int .i64 0,.int .i64 0] 28);simpa using h);have c0:w1.cell? ⟨w.heap.size+1,0,none⟩=some (.int .i64 0):=Dd _ _ 0 _ _ (0,0) r1;have c1:w1.cell? ⟨w.heap.size+1,1,none⟩=some (.int .i64 0):=Dd _ _ 1 _ _ (0,0) r1;have f0:w1.frozen? ⟨w.heap.size+1,0,none⟩=false:=Lib.frozen_of_heap r1 0;have f1:w1.frozen? ⟨w.heap.size+1,1,none⟩=false:=Lib.frozen_of_heap r1 1;have HTR:Hid (TR w ((w1.setCell ⟨w.heap.size+1,0,none⟩ (.int .i64 0)).setCell ⟨w.heap.size+1,1,none⟩ (.int .i64 (-1))) (.slice none 0 0) (.slice none 0 0) [] []):=by
  refine ⟨?_,?_,fK _ _,dr _ _,?_,by simpa using hz1⟩
  ·simp [World.setCell,Dw,r0]
  ·simp [World.setCell,Dw,r1]
  ·exact (((((Below.refl _ _).alloc (Db _) _).alloc (by simp) _).trans (hb1.mono (by simp;omega))).setCell (by simp) _).setCell (by simp) _
 clear hb1 r0 r1 hz1;go_wp2
 go_loopw [4,5] (fun bv av wr=>∃ (f a:Nat) (lv:Value) (l:List Tok) (b:List Nat),av=.int .i64 a∧a≤s.size∧s.size≤a+f∧l.length≤a∧b.length=l.length∧(∀ t∈l,t.own.size≤140737488351232)∧rdF s.data.toList s.data.toList.length 0 [] []=rdF s.data.toList f a l b∧TR w wr lv bv l b) (fun _ av _=>s.size-(intOf av).toNat)
 case atStart=>exact ⟨s.size,0,_,[],[],rfl,by omega,by omega,by simp,rfl,(fun t h=>by cases h),by rw [HL.out],HTR.out⟩
 case round =>
  clear HTR;obtain ⟨f,a,lv,l,b,rfl,ha,hf,hla,hbl,hz,heq,htr⟩:=hrel;have HZ:=hid hz;have HBL:=hid hbl;have HEQ:=hid heq;have HT:=hid htr;clear hz hbl heq htr;by_cases hlt:a<s.size
  ·obtain ⟨f',rfl⟩:∃ f',f=f'+1:=⟨f-1,by omega⟩;have hlt':a<s.data.toList.length:=by rw [HL.out];exact hlt
   have HD:=hid (jx s a);have hdl:(s.data.toList.drop a).length=s.size-a:=by rw [Dj,HL.out]
   have HM:Hid ((s.extract a s.size).size≤maxLen):=hid (show (s.extract a s.size).size≤maxLen by rw [DJ];unfold maxLen;omega);have d3:(0:Int)≤(a:Int):=by omega
   have d4:(a:Int)≤(s.size:Int):=by omega
   rcases cu (s.data.toList.drop a) with ⟨e,hg,he⟩ | ⟨n,k,hg,hn,hk1,hk2,hk3⟩
   ·have HRD:=hid (iF (pl:=(a:Int)) HEQ.out hlt' (m8 hg he) (by omega));have HGL:Hid (getL (s.extract a s.size).data.toList=(0,0,e)):=hid (show getL (s.extract a s.size).data.toList=(0,0,e) by rw [HD.out];exact hg);have HNE:=hid he;have hne:((e:Int) != 0)=true:=by simp;omega
    clear hg he hdl hlt';go_wp2_with (at_builtin;refine cU rfl _ _ rfl (w.heap.size+2) _ b rfl (HT.out.2.2.2.1.alloc _) ⟨wr.heap.size,0,none⟩ 1 rfl a ?c4 ?c5 ?c6 ?_)
    case c4=>simp [Addr.add]
    case c5=>have:=HBL.out;omega
    case c6=>have:=HT.out.2.2.2.2.2;simp;omega
    intro g' cap' w2 ho2 hg2;have HT2:Hid (TR w w2 lv (.slice (some ⟨g',0,none⟩) (b.length+1) cap') l (b++[a])):=HT.out.begun ho2 hg2;clear ho2 hg2;go_wp2_with fail
    refine (nY _ _ HM.out e HGL.out).mono ?_;rintro r w' ⟨rfl,rfl⟩;go_wp2_with fail
    refine (bi e (a:Int) _).mono ?_;rintro r w' ⟨rfl,rfl⟩;exact ft e (a:Int) HT2.out HNE.out HRD.out _ rfl rfl
   ·rw [hdl] at hk3;have HGL:Hid (getL (s.extract a s.size).data.toList=(n,k,0)):=hid (show getL (s.extract a s.size).data.toList=(n,k,0) by rw [HD.out];exact hg);have HEQ2:Hid (a+(s.size-a)=s.size):=hid (show a+(s.size-a)=s.size by omega);by_cases h2:n % 2=0
    ·have b2:((n:Int) % 2 == 0)=true:=by simp;omega
     by_cases h0:n=0
     ·subst h0;have HRD:=hid (iF (pl:=(a:Int)) HEQ.out hlt' (mc hg) (by omega));have HNE:Hid ((3:Nat)≠0):=hid (by decide);clear hg hdl hlt' h2 b2;go_wp2_with (at_builtin;refine cU rfl _ _ rfl (w.heap.size+2) _ b rfl (HT.out.2.2.2.1.alloc _) ⟨wr.heap.size,0,none⟩ 1 rfl a ?c4 ?c5 ?c6 ?_)
      case c4=>simp [Addr.add]
      case c5=>have:=HBL.out;omega
      case c6=>have:=HT.out.2.2.2.2.2;simp;omega
      intro g' cap' w2 ho2 hg2;have HT2:Hid (TR w w2 lv (.slice (some ⟨g',0,none⟩) (b.length+1) cap') l (b++[a])):=HT.out.begun ho2 hg2;clear ho2 hg2;go_wp2_with fail
      refine (dd _ _ HM.out 0 k HGL.out).mono ?_;rintro r w' ⟨rfl,rfl⟩;go_wp2_with fail
      refine (bi 3 (a:Int) _).mono ?_;rintro r w' ⟨rfl,rfl⟩;exact ft 3 (a:Int) HT2.out HNE.out HRD.out _ rfl rfl
     ·have b3:((n:Int) == 0)=false:=by simp;omega
      obtain ⟨h,hh⟩:∃ h,h=n / 2:=⟨_,rfl⟩;obtain ⟨q,hq⟩:∃ q,q=a+k:=⟨_,rfl⟩;have d7:(n:Int) / 2=(h:Int):=by omega
      have d9:(a:Int)+(k:Int)=(q:Int):=by omega
      by_cases hl:s.size-a<k+n / 2
      ·have HRD:=hid (iF (pl:=(s.size:Int)) HEQ.out hlt' (m7 hg h2 h0 (by rw [hdl];exact hl)) (by rw [hdl,HEQ2.out]));have HNE:Hid ((7:Nat)≠0):=hid (by decide);by_cases hbig:s.size<h
       ·have d5:(s.size:Int)<(h:Int):=by omega
        clear hg hdl hlt' h2 hh hq d9;go_wp2_with (at_builtin;refine cU rfl _ _ rfl (w.heap.size+2) _ b rfl (HT.out.2.2.2.1.alloc _) ⟨wr.heap.size,0,none⟩ 1 rfl a ?c4 ?c5 ?c6 ?_)
        case c4=>simp [Addr.add]
        case c5=>have:=HBL.out;omega
        case c6=>have:=HT.out.2.2.2.2.2;simp;omega
        intro g' cap' w2 ho2 hg2;have HT2:Hid (TR w w2 lv (.slice (some ⟨g',0,none⟩) (b.length+1) cap') l (b++[a])):=HT.out.begun ho2 hg2;clear ho2 hg2;go_wp2_with fail
        refine (dd _ _ HM.out n k HGL.out).mono ?_;rintro r w' ⟨rfl,rfl⟩;go_wp2_with fail
        refine (bi 7 (s.size:Int) _).mono ?_;rintro r w' ⟨rfl,rfl⟩;exact ft 7 (s.size:Int) HT2.out HNE.out HRD.out _ rfl rfl
       ·have d5:(h:Int)≤(s.size:Int):=by omega
        have d6:(s.size:Int)<(q:Int)+(h:Int):=by omega
        have d8:(q:Int)≤1000000:=by omega
        clear hg hdl hlt' h2 hh hq;go_wp2_with (at_builtin;refine cU rfl _ _ rfl (w.heap.size+2) _ b rfl (HT.out.2.2.2.1.alloc _) ⟨wr.heap.size,0,none⟩ 1 rfl a ?c4 ?c5 ?c6 ?_)
        case c4=>simp [Addr.add]
        case c5=>have:=HBL.out;omega
        case c6=>have:=HT.out.2.2.2.2.2;simp;omega
        intro g' cap' w2 ho2 hg2;have HT2:Hid (TR w w2 lv (.slice (some ⟨g',0,none⟩) (b.length+1) cap') l (b++[a])):=HT.out.begun ho2 hg2;clear ho2 hg2;go_wp2_with fail
        refine (dd _ _ HM.out n k HGL.out).mono ?_;rintro r w' ⟨rfl,rfl⟩;go_wp2_with fail
        refine (bi 7 (s.size:Int) _).mono ?_;rintro r w' ⟨rfl,rfl⟩;exact ft 7 (s.size:Int) HT2.out HNE.out HRD.out _ rfl rfl
      ·obtain ⟨e2,he2⟩:∃ e2,e2=q+h:=⟨_,rfl⟩;have hD2:(s.extract q e2).data.toList=((s.data.toList.drop a).drop k).take h:=by
        rw [cE,Dy,List.drop_take,he2,hq];congr 1;omega
       have hgt:=ma hg h2 h0 (by rw [hdl];exact hl);rw [←hh,show (⟨⟨(((s.data.toList.drop a).drop k).take h).toArray⟩,0,0⟩:Tok)=⟨s.extract q e2,0,0⟩ by rw [←hD2,bF]] at hgt;have HE:Hid (rdF s.data.toList s.data.toList.length 0 [] []=rdF s.data.toList f' (a+(k+h)) (l++[⟨s.extract q e2,0,0⟩]) (b++[a])):=hid (show rdF s.data.toList s.data.toList.length 0 [] []=rdF s.data.toList f' (a+(k+h)) (l++[⟨s.extract q e2,0,0⟩]) (b++[a]) by rw [HEQ.out,gm hlt' hgt]);have HZ2:Hid (∀ u∈l++[(⟨s.extract q e2,0,0⟩:Tok)],u.own.size≤140737488351232):=hid (show ∀ u∈l++[(⟨s.extract q e2,0,0⟩:Tok)],u.own.size≤140737488351232 from fun u hu=>by
        rcases Ef.1 hu with hu | hu
        ·exact HZ.out u hu
        ·rw [Ek.1 hu];show (s.extract q e2).size≤_;rw [DJ];omega)
       have HMJ:Hid (a+(k+h)≤s.size∧s.size≤a+(k+h)+f'∧1≤k):=hid ⟨by omega,by omega,hk1⟩;have d5:(h:Int)≤(s.size:Int):=by omega
       have d6:(q:Int)+(h:Int)≤(s.size:Int):=by omega
       have d8:(q:Int)≤1000000:=by omega
       have dA:(e2:Int)≤(s.size:Int):=by omega
       have dB:(q:Int)≤(e2:Int):=by omega
       have dC:(0:Int)≤(q:Int):=by omega
       have dD:(0:Int)≤(e2:Int):=by omega
       have k1':IntKind.i64.wrap ((a:Int)+(k:Int))=(q:Int):=by rw [d9];exact Dh _ (by omega)
       have k2':IntKind.i64.wrap ((q:Int)+(h:Int))=(e2:Int):=by rw [show (q:Int)+(h:Int)=(e2:Int) by omega];exact Dh _ (by omega)
       have k3':IntKind.i64.wrap (h:Int)=(h:Int):=Dh _ (by omega);have k4':IntKind.i64.wrap (q:Int)=(q:Int):=Dh _ (by omega);have k5':IntKind.i64.wrap (e2:Int)=(e2:Int):=Dh _ (by omega);have k6':(n:Int).tdiv 2=(h:Int):=by rw [Int.tdiv_eq_ediv_of_nonneg (by omega)];exact d7
       have k7':IntKind.u64.wrap (h:Int)=(h:Int):=DI _ (by omega);have k8':(q:Int)+(h:Int)=(e2:Int):=by omega
       have n1:q≤e2:=by omega
       have n2:e2≤s.size:=by omega
       have HLN:Hid (l.length+1≤1000000):=hid (show l.length+1≤1000000 by omega);have HBS:=hid HT.out.2.2.2.2.2;clear hg hdl hlt' h2 hh hq hgt hD2 he2;go_wp2_with (at_builtin;refine cU rfl _ _ rfl (w.heap.size+2) _ b rfl (HT.out.2.2.2.1.alloc _) ⟨wr.heap.size,0,none⟩ 1 rfl a ?c4 ?c5 ?c6 ?_)
       case c4=>simp [Addr.add]
       case c5=>have:=HBL.out;omega
       case c6=>have:=HT.out.2.2.2.2.2;simp;omega
       intro g' cap' w2 ho2 hg2;have HT2:Hid (TR w w2 lv (.slice (some ⟨g',0,none⟩) (b.length+1) cap') l (b++[a])):=HT.out.begun ho2 hg2;clear ho2 hg2;go_wp2_with fail
       refine (dd _ _ HM.out n k HGL.out).mono ?_;rintro r w' ⟨rfl,rfl⟩;obtain ⟨o0,o1,_⟩:=HT2.out.cells;have o0':(w2.alloc (.cells #[.string (s.extract q e2),.int .i64 0,.int .i64 0] 142)).cell? ⟨w.heap.size,0,none⟩=some lv:=((HT2.out.alloc _).cells).1;go_wp2;refine E6 ?_
       go_region_law (first | (refine AV _ rfl _ _ rfl (w.heap.size+2) _ l rfl (HT2.out.2.2.1.alloc _) w2.heap.size 1 rfl ⟨s.extract q e2,0,0⟩ (by exact e8 w2 _ _ _) HLN.out (by have:=HT2.out.2.2.2.2.2;simp;omega) ?_;intro g cap w3 ho3 hg3;have hg4:=ww hg3;obtain ⟨u0,u1⟩:=HT2.out.out_kept hg4;have HT3:=hid (HT2.out.read ho3 hg4);clear ho3 hg3 hg4))
       all_goals
        refine DT ?_;obtain ⟨l1,hl1⟩:∃ l1,l++[(⟨s.extract q e2,0,0⟩:Tok)]=l1:=⟨_,rfl⟩;have hll:l1.length=l.length+1:=by rw [←hl1];simp
        rw [hl1] at HT3 HE HZ2;have HBL2:Hid ((b++[a]).length=l1.length):=hid (show (b++[a]).length=l1.length by rw [hll,Df,HBL.out];rfl);clear hl1 o0 o1;go_wp2;go_roundw
        case rel=>obtain ⟨z1,z2,z3⟩:=HMJ.out;exact ⟨f',a+(k+h),_,l1,b++[a],by go_num,z1,z2,by omega,HBL2.out,HZ2.out,HE.out,HT3.out⟩
        case measure=>obtain ⟨z1,z2,z3⟩:=HMJ.out;simp [intOf];omega
    ·have b2:((n:Int) % 2 == 0)=false:=by simp;omega
     obtain ⟨h,hh⟩:∃ h,h=n / 2:=⟨_,rfl⟩;obtain ⟨q,hq⟩:∃ q,q=a+k:=⟨_,rfl⟩;have d7:(n:Int) / 2=(h:Int):=by omega
     have d9:(a:Int)+(k:Int)=(q:Int):=by omega
     by_cases hb:63<n / 2
     ·have HRD:=hid (iF (pl:=(a:Int)) HEQ.out hlt' (m6 hg h2 hb) (by omega));have HNE:Hid ((2:Nat)≠0):=hid (by decide);have d5:67<(h:Int)+4:=by omega
      have d6:(h:Int)≤9223372036854775807:=by omega
      clear hg hdl hlt' h2 hh hq d9;go_wp2_with (at_builtin;refine cU rfl _ _ rfl (w.heap.size+2) _ b rfl (HT.out.2.2.2.1.alloc _) ⟨wr.heap.size,0,none⟩ 1 rfl a ?c4 ?c5 ?c6 ?_)
      case c4=>simp [Addr.add]
      case c5=>have:=HBL.out;omega
      case c6=>have:=HT.out.2.2.2.2.2;simp;omega
      intro g' cap' w2 ho2 hg2;have HT2:Hid (TR w w2 lv (.slice (some ⟨g',0,none⟩) (b.length+1) cap') l (b++[a])):=HT.out.begun ho2 hg2;clear ho2 hg2;go_wp2_with fail
      refine (dd _ _ HM.out n k HGL.out).mono ?_;rintro r w' ⟨rfl,rfl⟩;go_wp2_with fail
      refine (bi 2 (a:Int) _).mono ?_;rintro r w' ⟨rfl,rfl⟩;exact ft 2 (a:Int) HT2.out HNE.out HRD.out _ rfl rfl
     ·have d5:(h:Int)+4≤67:=by omega
      have d8:(q:Int)≤(s.size:Int):=by omega
      have dB:(0:Int)≤(q:Int):=by omega
      have hE2:(s.data.toList.drop a).drop k=(s.extract q s.size).data.toList:=by rw [jx,Dy,hq]
      have HM2:Hid ((s.extract q s.size).size≤maxLen):=hid (show (s.extract q s.size).size≤maxLen by rw [DJ];unfold maxLen;omega);rcases lJ ((s.data.toList.drop a).drop k) with ⟨e,hk,he⟩ | ⟨m,j,hk,hm,hm2⟩
      ·have HRD:=hid (iF (pl:=(q:Int)) HEQ.out hlt' (m5 hg h2 hb hk he) (by omega));rw [hE2] at hk;have HK:=hid hk;have HNE:=hid he;have hne:((e:Int) != 0)=true:=by simp;omega
       clear hg hdl hlt' h2 hh hq hE2 hk he;go_wp2_with (at_builtin;refine cU rfl _ _ rfl (w.heap.size+2) _ b rfl (HT.out.2.2.2.1.alloc _) ⟨wr.heap.size,0,none⟩ 1 rfl a ?c4 ?c5 ?c6 ?_)
       case c4=>simp [Addr.add]
       case c5=>have:=HBL.out;omega
       case c6=>have:=HT.out.2.2.2.2.2;simp;omega
       intro g' cap' w2 ho2 hg2;have HT2:Hid (TR w w2 lv (.slice (some ⟨g',0,none⟩) (b.length+1) cap') l (b++[a])):=HT.out.begun ho2 hg2;clear ho2 hg2;go_wp2_with fail
       refine (dd _ _ HM.out n k HGL.out).mono ?_;rintro r w' ⟨rfl,rfl⟩;go_wp2_with fail
       refine (zR _ _ HM2.out e HK.out).mono ?_;rintro r w' ⟨rfl,rfl⟩;go_wp2_with fail
       refine (bi e (q:Int) _).mono ?_;rintro r w' ⟨rfl,rfl⟩;exact ft e (q:Int) HT2.out HNE.out HRD.out _ rfl rfl
      ·have hgt:=mb hg h2 hb hk;have HE:Hid (rdF s.data.toList s.data.toList.length 0 [] []=rdF s.data.toList f' (a+(k+j)) (l++[repT (m+1) (h+4)]) (b++[a])):=hid (show rdF s.data.toList s.data.toList.length 0 [] []=rdF s.data.toList f' (a+(k+j)) (l++[repT (m+1) (h+4)]) (b++[a]) by rw [HEQ.out,gm hlt' hgt,hh]);obtain ⟨_,g2,_⟩:=m9 hgt;rw [hdl] at g2;rw [hE2] at hk;have HK:=hid hk;have hj2:(j:Int)≤1000000:=by omega
       have HZ2:Hid (∀ u∈l++[repT (m+1) (h+4)],u.own.size≤140737488351232):=hid (show ∀ u∈l++[repT (m+1) (h+4)],u.own.size≤140737488351232 from fun u hu=>by
        rcases Ef.1 hu with hu | hu
        ·exact HZ.out u hu
        ·rw [Ek.1 hu];exact Ds _)
       have HTQ:Hid (repT (m+1) (h+4)=⟨⟨#[]⟩,(m:Int)+1,(h:Int)+4⟩):=hid (show repT (m+1) (h+4)=⟨⟨#[]⟩,(m:Int)+1,(h:Int)+4⟩ by unfold repT;simp);have HMJ:Hid (a+(k+j)≤s.size∧s.size≤a+(k+j)+f'∧1≤k):=hid ⟨by omega,by omega,hk1⟩;clear hg hdl hlt' h2 hh hq hE2 hk hgt hm;go_wp2_with (at_builtin;refine cU rfl _ _ rfl (w.heap.size+2) _ b rfl (HT.out.2.2.2.1.alloc _) ⟨wr.heap.size,0,none⟩ 1 rfl a ?c4 ?c5 ?c6 ?_)
       case c4=>simp [Addr.add]
       case c5=>have:=HBL.out;omega
       case c6=>have:=HT.out.2.2.2.2.2;simp;omega
       intro g' cap' w2 ho2 hg2;have HT2:Hid (TR w w2 lv (.slice (some ⟨g',0,none⟩) (b.length+1) cap') l (b++[a])):=HT.out.begun ho2 hg2;clear ho2 hg2;go_wp2_with fail
       refine (dd _ _ HM.out n k HGL.out).mono ?_;rintro r w' ⟨rfl,rfl⟩;go_wp2_with fail
       refine (zS _ _ HM2.out m j HK.out).mono ?_;rintro r w' ⟨rfl,rfl⟩;obtain ⟨o0,o1,_⟩:=HT2.out.cells;rw [HTQ.out] at HE HZ2;go_wp2_with (at_builtin;refine fU rfl _ _ rfl (w.heap.size+2) _ l rfl (HT2.out.2.2.1.alloc _) _ 1 rfl ⟨⟨#[]⟩,(m:Int)+1,(h:Int)+4⟩ ?c7 ?c8 ?c9 ?_)
       case c7=>exact e8 _ _ _ _
       case c8=>omega
       case c9=>have:=HT2.out.2.2.2.2.2;simp;omega
       intro g cap w3 ho3 hg3;obtain ⟨u0,u1⟩:=HT2.out.out_kept hg3;have HT3:=hid (HT2.out.read ho3 hg3);obtain ⟨l1,hl1⟩:∃ l1,l++[(⟨⟨#[]⟩,(m:Int)+1,(h:Int)+4⟩:Tok)]=l1:=⟨_,rfl⟩;have hll:l1.length=l.length+1:=by rw [←hl1];simp
       rw [hl1] at HT3 HE HZ2;have HBL2:Hid ((b++[a]).length=l1.length):=hid (show (b++[a]).length=l1.length by rw [hll,Df,HBL.out];rfl);clear ho3 hg3 hl1 o0 o1;go_wp2;go_roundw
       case rel=>obtain ⟨z1,z2,z3⟩:=HMJ.out;exact ⟨f',a+(k+j),_,l1,b++[a],by go_num,z1,z2,by omega,HBL2.out,HZ2.out,HE.out,HT3.out⟩
       case measure=>obtain ⟨z1,z2,z3⟩:=HMJ.out;simp [intOf];omega
  ·have hlt':¬ a<s.data.toList.length:=by rw [HL.out];exact hlt
   have hE:rdF s.data.toList s.data.toList.length 0 [] []=.inr (l,b):=by rw [HEQ.out,iD hlt']
   have HIS:=hid HT.out.2.2.1.is;have hll:l.length≤9223372036854775807:=by omega
   obtain ⟨o0,o1,_⟩:=HT.out.cells;by_cases hr:(a8 l 0 0).1=0
   ·obtain ⟨a5,c5,hlv,_⟩:=HT.out.2.2.1.is.form;subst hlv;have HRD:=hid (kf hE hr);have HFV:Hid (bH (a8 l 0 0)=.agg #[.int .i64 0,.int .i64 (-1)]):=hid (show bH (a8 l 0 0)=.agg #[.int .i64 0,.int .i64 (-1)] by rw [fM hr];rfl);clear hlt' hE hr;go_wp2_with fail
    refine (gv _ l _ HIS.out hll HZ.out).mono ?_;rintro r w2 ⟨rfl,hb2⟩;rw [HFV.out];have HT2:=hid (HT.out.below hb2);clear hb2 o0 o1;go_wp2_with fail
    refine (aH 0 (-1) _).mono ?_;rintro r w3 ⟨rfl,hb3⟩;have HT3:=hid ((HT2.out.alloc _).below hb3);obtain ⟨o0,o1,c0',c1',z0',z1'⟩:=HT3.out.cells;clear hb3;go_wp2;go_region
    go_wp2
    all_goals (first | exact pg HT3.out.drew.same HRD.out _ rfl rfl | exact pg HT3.out.same.drew HRD.out _ rfl rfl)
   ·obtain ⟨j,hj,hjl⟩:=qY hr;rw [DY] at hj;obtain ⟨e,he⟩:∃ e,(a8 l 0 0).1=e:=⟨_,rfl⟩;obtain ⟨q,hq⟩:∃ q,b.getD j 0=q:=⟨_,rfl⟩;have hre:a8 l 0 0=(e,(j:Int)):=Prod.ext he hj;have HRD:Hid (am s.data.toList=((e,(q:Int)),[])):=hid (show am s.data.toList=((e,(q:Int)),[]) by rw [kg hE hr,hre];simp only [E2];rw [hq]);have HNE:Hid (e≠0):=hid (by rw [←he];exact hr);have hbe:((e:Int) == 0)=false:=by have:=HNE.out;simp;omega
    have HBE:=hid hbe;have HFV:Hid (bH (a8 l 0 0)=.agg #[.int .i64 e,.int .i64 j]):=hid (show bH (a8 l 0 0)=.agg #[.int .i64 e,.int .i64 j] by rw [hre];rfl);have hon:=HT.out.2.2.2.1;rcases hon.forms with ⟨_,hnil⟩ | ⟨g,cap,hbv,hbg,hgl,hcells⟩
    ·exact absurd hjl (by have:=HBL.out;rw [hnil] at this;simp at this;omega)
    ·subst hbv;have hcj:=hcells j (by have:=HBL.out;omega);rw [hq] at hcj;have hjb:(j:Int)<(b.length:Int):=by have:=HBL.out;omega
     have hj0:(0:Int)≤(j:Int):=by omega
     obtain ⟨n,hn⟩:∃ n,n=b.length:=⟨_,rfl⟩;rw [←hn] at hjb HT ⊢;clear hlt' hE hr hj he hre hbe hon hcells hbg hq hn;go_wp2_with fail
     refine (gv _ l _ HIS.out hll HZ.out).mono ?_;rintro r w2 ⟨rfl,hb2⟩;rw [HFV.out];have HT2:=hid (HT.out.below hb2);have hcj2:w2.cell? ⟨g,j,none⟩=some (.int .i64 (q:Int)):=(hb2.cell hgl).trans hcj;have hgl2:g<w2.heap.size:=Dv hgl hb2.size;clear hb2 hcj o0 o1;go_wp2_with fail
     refine (aH e j _).mono ?_;rintro r w3 ⟨rfl,hb3⟩;rw [HBE.out];have HT3:=hid ((HT2.out.alloc _).below hb3);have u0:w3.cell? ⟨w2.heap.size,0,none⟩=some (.int .i64 e):=(hb3.cell (by simp)).trans (by simp);have u1:w3.cell? ⟨w2.heap.size,1,none⟩=some (.int .i64 j):=(hb3.cell (by simp)).trans (by simp);have hcj3:w3.cell? ⟨g,j,none⟩=some (.int .i64 (q:Int)):=(hb3.cell (by simp;omega)).trans ((((Below.refl _ _).alloc (Db _) _).cell hgl2).trans hcj2);clear hb3 hcj2;go_wp2
     go_still_tail 7,(by kernel_rfl)
     change wpList _ _ _ _ _ w3.drew
     have HT3d:=hid HT3.out.drew;generalize w3.drew=w4 at HT3d ⊢;go_wp2_with fail
     refine (bi e (q:Int) _).mono ?_;rintro r w' ⟨rfl,rfl⟩;exact ft e (q:Int) HT3d.out HNE.out HRD.out _ rfl rfl
end
