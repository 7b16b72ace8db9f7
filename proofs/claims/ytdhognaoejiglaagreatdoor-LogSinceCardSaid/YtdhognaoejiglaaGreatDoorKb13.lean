import Derived.Test.YtdhognaoejiglaaGreatDoorKb12
namespace Go.Proofs.YtdhognaoejiglaaGreatDoor
open Lib (hid)
set_option maxRecDepth 100000
set_option maxHeartbeats 8000000
section
open Go.RowKit
theorem ii (x1 x2:Int) (vf vh:Value) (f h:List Ent) (b:Bool) (w:World) (hf:ae w vf f) (hh:ae w vh h) (hlf:f.length≤9223372036854775807) (hlh:h.length≤9223372036854775807) (hb:wiF (x1,x2) f h=b) :
 Calls Tryz.prog 27 #[.agg #[.int .i64 x1,.int .i64 x2],vf,vh] w fun e w'=>e=.returned (.bool b)∧Below w.heap.size w w':=G8 x1 x2 vf vh f h w hf hh hlf hlh b hb
def okE:List Ent:=[⟨1,2⟩]
theorem sQ (w:World):ae (w.alloc (.cells #[.int .i64 1,.int .i64 2] 58)) (.slice (some ⟨w.heap.size,0,none⟩) 1 1) okE:=by
 refine .inr ⟨w.heap.size,0,1,rfl,⟨by decide,by decide⟩,by simp,fun j u hj=>?_⟩;rw [Nat.zero_add,cell_of_row _ _ j _ _ (0,0) (heap_alloc_new w _)];have e:b8 okE=[.int .i64 1,.int .i64 2]:=rfl;rw [e] at hj
 simpa using hj
theorem gj (w:World):Calls Tryz.prog 12 #[] w fun e w'=>e=.returned (.bool true)∧Below w.heap.size w w':=by
 go_enter Tryz.func12,Tryz.ntmps12
 go_wp2_with fail
 refine (gc 2 1 1 9 1 _ (by decide)).mono ?_;rintro r w1 ⟨rfl,hb1⟩;have k1_0:w1.cell? ⟨w.heap.size,0,none⟩=some (.int .i64 2):=(hb1.cell (by first | (simp;done) | (simp;omega))).trans (by simp);have k1_1:w1.cell? ⟨w.heap.size,1,none⟩=some (.int .i64 1):=(hb1.cell (by first | (simp;done) | (simp;omega))).trans (by simp);have k1_2:w1.cell? ⟨w.heap.size+1,0,none⟩=some (.int .i64 1):=(hb1.cell (by first | (simp;done) | (simp;omega))).trans (by simp);have k1_3:w1.cell? ⟨w.heap.size+1,1,none⟩=some (.int .i64 9):=(hb1.cell (by first | (simp;done) | (simp;omega))).trans (by simp);have HB1:Hid (Below w.heap.size w w1):=((((Below.refl _ _).alloc (Nat.le_refl _) _).alloc (by simp) _).trans (hb1.mono (by simp;omega)));have HZ1:Hid (w.heap.size+1<w1.heap.size):=(Nat.lt_of_lt_of_le (by first | (simp;done) | (simp;omega)) hb1.size);clear hb1;go_wp2_with fail
 refine (gc 1 9 2 1 (-1) _ (by decide)).mono ?_;rintro r w2 ⟨rfl,hb2⟩;have k2_0:w2.cell? ⟨w.heap.size,0,none⟩=some (.int .i64 2):=(hb2.cell (by have:=HZ1.out;show w.heap.size<_;omega)).trans (k1_0);have k2_1:w2.cell? ⟨w.heap.size,1,none⟩=some (.int .i64 1):=(hb2.cell (by have:=HZ1.out;show w.heap.size<_;omega)).trans (k1_1);have k2_2:w2.cell? ⟨w.heap.size+1,0,none⟩=some (.int .i64 1):=(hb2.cell (by have:=HZ1.out;show w.heap.size+1<_;omega)).trans (k1_2);have k2_3:w2.cell? ⟨w.heap.size+1,1,none⟩=some (.int .i64 9):=(hb2.cell (by have:=HZ1.out;show w.heap.size+1<_;omega)).trans (k1_3);have HB2:Hid (Below w.heap.size w w2):=HB1.out.trans (hb2.mono HB1.out.size);have HZ2:Hid (w.heap.size+1<w2.heap.size):=(Nat.lt_of_lt_of_le HZ1.out hb2.size);clear hb2 k1_0 k1_1 k1_2 k1_3;go_wp2_with fail
 refine (gc 2 1 2 1 0 _ (by decide)).mono ?_;rintro r w3 ⟨rfl,hb3⟩;have k3_0:w3.cell? ⟨w.heap.size,0,none⟩=some (.int .i64 2):=(hb3.cell (by have:=HZ2.out;show w.heap.size<_;omega)).trans (k2_0);have k3_1:w3.cell? ⟨w.heap.size,1,none⟩=some (.int .i64 1):=(hb3.cell (by have:=HZ2.out;show w.heap.size<_;omega)).trans (k2_1);have k3_2:w3.cell? ⟨w.heap.size+1,0,none⟩=some (.int .i64 1):=(hb3.cell (by have:=HZ2.out;show w.heap.size+1<_;omega)).trans (k2_2);have k3_3:w3.cell? ⟨w.heap.size+1,1,none⟩=some (.int .i64 9):=(hb3.cell (by have:=HZ2.out;show w.heap.size+1<_;omega)).trans (k2_3);have HB3:Hid (Below w.heap.size w w3):=HB2.out.trans (hb3.mono HB2.out.size);have HZ3:Hid (w.heap.size+1<w3.heap.size):=(Nat.lt_of_lt_of_le HZ2.out hb3.size);clear hb3 k2_0 k2_1 k2_2 k2_3;go_wp2_with fail
 refine (ii 2 1 _ _ [] okE true _ (ae.nil _) (sQ w3) (by decide) (by decide) (by decide)).mono ?_;rintro r w4 ⟨rfl,hb4⟩;have k4_0:w4.cell? ⟨w.heap.size,0,none⟩=some (.int .i64 2):=(hb4.cell (by have:=HZ3.out;show w.heap.size<_;rw [World.size_alloc];omega)).trans ((World.cell?_alloc_lt w3 _ (⟨w.heap.size,0,none⟩:Addr) (by have:=HZ3.out;show w.heap.size<_;omega)).trans k3_0);have k4_1:w4.cell? ⟨w.heap.size,1,none⟩=some (.int .i64 1):=(hb4.cell (by have:=HZ3.out;show w.heap.size<_;rw [World.size_alloc];omega)).trans ((World.cell?_alloc_lt w3 _ (⟨w.heap.size,1,none⟩:Addr) (by have:=HZ3.out;show w.heap.size<_;omega)).trans k3_1);have k4_2:w4.cell? ⟨w.heap.size+1,0,none⟩=some (.int .i64 1):=(hb4.cell (by have:=HZ3.out;show w.heap.size+1<_;rw [World.size_alloc];omega)).trans ((World.cell?_alloc_lt w3 _ (⟨w.heap.size+1,0,none⟩:Addr) (by have:=HZ3.out;show w.heap.size+1<_;omega)).trans k3_2);have k4_3:w4.cell? ⟨w.heap.size+1,1,none⟩=some (.int .i64 9):=(hb4.cell (by have:=HZ3.out;show w.heap.size+1<_;rw [World.size_alloc];omega)).trans ((World.cell?_alloc_lt w3 _ (⟨w.heap.size+1,1,none⟩:Addr) (by have:=HZ3.out;show w.heap.size+1<_;omega)).trans k3_3);have HB4:Hid (Below w.heap.size w w4):=(HB3.out.alloc HB3.out.size _).trans (hb4.mono (by have:=HB3.out.size;simp;omega))
 have HZ4:Hid (w.heap.size+1<w4.heap.size):=(Nat.lt_of_lt_of_le (by have:=HZ3.out;simp;omega) hb4.size);clear hb4 k3_0 k3_1 k3_2 k3_3;go_wp2_with fail
 refine (ii 2 1 _ _ okE [] false _ (sQ w4) (ae.nil _) (by decide) (by decide) (by decide)).mono ?_;rintro r w5 ⟨rfl,hb5⟩;have k5_0:w5.cell? ⟨w.heap.size,0,none⟩=some (.int .i64 2):=(hb5.cell (by have:=HZ4.out;show w.heap.size<_;rw [World.size_alloc];omega)).trans ((World.cell?_alloc_lt w4 _ (⟨w.heap.size,0,none⟩:Addr) (by have:=HZ4.out;show w.heap.size<_;omega)).trans k4_0);have k5_1:w5.cell? ⟨w.heap.size,1,none⟩=some (.int .i64 1):=(hb5.cell (by have:=HZ4.out;show w.heap.size<_;rw [World.size_alloc];omega)).trans ((World.cell?_alloc_lt w4 _ (⟨w.heap.size,1,none⟩:Addr) (by have:=HZ4.out;show w.heap.size<_;omega)).trans k4_1);have k5_2:w5.cell? ⟨w.heap.size+1,0,none⟩=some (.int .i64 1):=(hb5.cell (by have:=HZ4.out;show w.heap.size+1<_;rw [World.size_alloc];omega)).trans ((World.cell?_alloc_lt w4 _ (⟨w.heap.size+1,0,none⟩:Addr) (by have:=HZ4.out;show w.heap.size+1<_;omega)).trans k4_2);have k5_3:w5.cell? ⟨w.heap.size+1,1,none⟩=some (.int .i64 9):=(hb5.cell (by have:=HZ4.out;show w.heap.size+1<_;rw [World.size_alloc];omega)).trans ((World.cell?_alloc_lt w4 _ (⟨w.heap.size+1,1,none⟩:Addr) (by have:=HZ4.out;show w.heap.size+1<_;omega)).trans k4_3);have HB5:Hid (Below w.heap.size w w5):=(HB4.out.alloc HB4.out.size _).trans (hb5.mono (by have:=HB4.out.size;simp;omega))
 have HZ5:Hid (w.heap.size+1<w5.heap.size):=(Nat.lt_of_lt_of_le (by have:=HZ4.out;simp;omega) hb5.size);clear hb5 k4_0 k4_1 k4_2 k4_3;go_wp2;go_ret;exact ⟨by first | rfl | simp,HB5.out⟩
end
section
open Go.RowKit
theorem iF (vf vh vw uf uh uw:Value) (f h:List Ent) (l:List Wr) (f2 h2:List Ent) (l2:List Wr) (c:Bool) (w:World) (hx:aC w vf vh vw f h l) (hy:aC w uf uh uw f2 h2 l2) (hc:ic f h l f2 h2 l2=c) :
 Calls Tryz.prog 25 #[.agg #[vf,vh,vw],.agg #[uf,uh,uw]] w fun e w'=>e=.returned (.bool c)∧Below w.heap.size w w':=by
 subst hc;have HX:=hid hx;have HY:=hid hy;obtain ⟨hf,hh,hv,_⟩:=hx;obtain ⟨af,cf,rfl,_⟩:=hf.form;obtain ⟨ah,ch,rfl,_⟩:=hh.form;obtain ⟨aw,cw,rfl,_⟩:=hv.form;obtain ⟨hf2,hh2,hv2,_⟩:=hy;obtain ⟨bf,df,rfl,_⟩:=hf2.form;obtain ⟨bh,dh,rfl,_⟩:=hh2.form;obtain ⟨bw,dw,rfl,_⟩:=hv2.form;clear hf hh hv hf2 hh2 hv2;obtain ⟨nf,hn1⟩:∃ n,n=f.length:=⟨_,rfl⟩;obtain ⟨nh,hn2⟩:∃ n,n=h.length:=⟨_,rfl⟩;obtain ⟨n,hn3⟩:∃ n,n=l.length:=⟨_,rfl⟩;obtain ⟨mf,hn4⟩:∃ n,n=f2.length:=⟨_,rfl⟩;obtain ⟨mh,hn5⟩:∃ n,n=h2.length:=⟨_,rfl⟩;obtain ⟨m,hn6⟩:∃ n,n=l2.length:=⟨_,rfl⟩;rw [←hn1,←hn2,←hn3] at HX ⊢;rw [←hn4,←hn5,←hn6] at HY ⊢;obtain ⟨c1,e1⟩:∃ c,decide (f=f2)=c:=⟨_,rfl⟩;obtain ⟨c2,e2⟩:∃ c,decide (h=h2)=c:=⟨_,rfl⟩;obtain ⟨c3,e3⟩:∃ c,decide (l=l2)=c:=⟨_,rfl⟩;have HR:Hid (ic f h l f2 h2 l2=(c1 && c2 && c3)):=hid (by unfold ic;rw [e1,e2,e3]);have H1:=hid e1;have H2:=hid e2;have H3:=hid e3;have HW0:Hid (Below w.heap.size w ((w.alloc (.cells #[.slice af nf cf,.slice ah nh ch,.slice aw n cw] 47)).alloc (.cells #[.slice bf mf df,.slice bh mh dh,.slice bw m dw] 47))):=hid (((Below.refl _ _).alloc (Nat.le_refl _) _).alloc (by simp) _);have HA:Hid (bat2 ((w.alloc (.cells #[.slice af nf cf,.slice ah nh ch,.slice aw n cw] 47)).alloc (.cells #[.slice bf mf df,.slice bh mh dh,.slice bw m dw] 47)) w.heap.size (.slice af nf cf) (.slice ah nh ch) (.slice aw n cw) (.slice bf mf df) (.slice bh mh dh) (.slice bw m dw)):=hid (xv _ _ _ _ _ _ _ _ _)
 clear hn1 hn2 hn3 hn4 hn5 hn6 e1 e2 e3;rw [HR.out];go_enter Tryz.func25,Tryz.ntmps25
 go_wp2_with fail
 generalize (w.alloc (.cells #[.slice af nf cf,.slice ah nh ch,.slice aw n cw] 47)).alloc (.cells #[.slice bf mf df,.slice bh mh dh,.slice bw m dw] 47)=W at HA HW0 ⊢;have HX0:=hid (HX.out.below HW0.out);have HY0:=hid (HY.out.below HW0.out);refine (kr _ _ f f2 c1 _ HX0.out.1 HY0.out.1 HX0.out.2.2.2.1 HY0.out.2.2.2.1 H1.out).mono ?_;rintro r w1 ⟨rfl,q1,rfl⟩;cases c1 with
 | false =>
  go_wp2;go_ret;exact ⟨rfl,below_drewN HW0.out _⟩
 | true =>
  obtain ⟨d0,d1,d2,d3,d4,d5⟩:=HA.out.drewN q1;go_wp2_with fail
  refine (kr _ _ h h2 c2 _ (HX0.out.2.1.drewN q1) (HY0.out.2.1.drewN q1) HX0.out.2.2.2.2.1 HY0.out.2.2.2.2.1 H2.out).mono ?_;rintro r w2 ⟨rfl,q2,rfl⟩;rw [World.drewN_drewN];clear d0 d1 d2 d3 d4 d5;cases c2 with
  | false =>
   go_wp2;go_ret;exact ⟨rfl,below_drewN HW0.out _⟩
  | true =>
   obtain ⟨d0,d1,d2,d3,d4,d5⟩:=HA.out.drewN (q1+q2);go_wp2_with fail
   refine (mY _ _ l l2 c3 _ (HX0.out.2.2.1.drewN (q1+q2)) (HY0.out.2.2.1.drewN (q1+q2)) HX0.out.2.2.2.2.2.1 HY0.out.2.2.2.2.2.1 H3.out).mono ?_;rintro r w3 ⟨rfl,q3,rfl⟩;rw [World.drewN_drewN];clear d0 d1 d2 d3 d4 d5;go_wp2;go_ret;exact ⟨by first | rfl | simp,below_drewN HW0.out _⟩
end
section
theorem sF {α:Type} {L:List α} {i:Nat} {a:α} (h:L[i]? = some a):a∈L:=List.mem_of_getElem? h
theorem CX {U:List Wr} {L:List LogS} (h:cW U L) (hU:U.length≤60) {i j:Nat} {s t:LogS} (hi:L[i]? = some s) (hj:L[j]? = some t) (he:bo s t.hv=0) :
 aY t.hv (aT s t.hv) (aD s t.hv)∧(accE t t.hv (aT s t.hv) (aD s t.hv)).1=0∧cW U (L.set j (accS t (aT s t.hv) (aD s t.hv))) ∧
  (∀ s',(L.set j (accS t (aT s t.hv) (aD s t.hv)))[i]? = some s'→covB (accS t (aT s t.hv) (aD s t.hv)).hv s'.hv=true)∧(aD s t.hv).length≤60:=by
 have hs:=sF hi;have ht:=sF hj;have hrv:aB t.hv:=(h.ok t ht).hv;have hcv:covB s.hv t.hv=true:=by
  unfold bo at he;split at he
  ·rename_i hn;exact absurd he hn
  ·split at he
   ·cases he
   ·rename_i hc;simpa using hc
 have ho:=oD (h.ok s hs) hrv hcv;obtain ⟨_,h2,h3,h4⟩:=oz (h.ok s hs) (h.ok t ht) ho;have hb:=DW h hs hrv ho;have hfl:(t.ws++aD s t.hv).length≤U.length:=by
  have hn:(t.ws++aD s t.hv).Nodup:=by
   rw [List.nodup_append];refine ⟨(h.ok t ht).srt.imp (fun {a b} h (e:a=b)=>dr h (by rw [e])),ho.srt.imp (fun {a b} h (e:a=b)=>dr h (by rw [e])),?_⟩;intro x hx y hy e;subst e;have h1:=(h.ws t ht x).1 hx;have h2:=(hb.mem x).1 hy;omega
  refine hn.length_le_of_subset (fun x hx=>?_);rcases List.mem_append.1 hx with hx | hx
  ·exact ((h.ws t ht x).1 hx).1
  ·exact ((hb.mem x).1 hx).1
 rw [List.length_append] at hfl;have ha:(accE t t.hv (aT s t.hv) (aD s t.hv)).1=0:=by rw [h4,if_neg (by omega)]
 obtain ⟨g1,g2⟩:=CU h hs hj ho ha;refine ⟨hb.right,ha,g2,fun s' hs'=>?_,ho.len⟩;have hsl:s.ws.length≤60:=Nat.le_trans (CR h hs) hU;have hh:=(DV t.hv hsl).2;rcases dY hs' with ⟨_,rfl⟩ | ⟨_,hs'⟩
 ·exact (fu (g2.ok _ (by rw [List.mem_iff_getElem?];exact ⟨i,hs'⟩)).hv (g2.ok _ (by rw [List.mem_iff_getElem?];exact ⟨i,hs'⟩)).hv).2 (fun _=>Int.le_refl _)
 ·rw [hi] at hs';obtain rfl:=Option.some.inj hs';rw [g1];show covB (aT s t.hv) s.hv=true
  rw [hh];exact (fu (h.ok s hs).hv (h.ok s hs).hv).2 (fun _=>Int.le_refl _)
end
