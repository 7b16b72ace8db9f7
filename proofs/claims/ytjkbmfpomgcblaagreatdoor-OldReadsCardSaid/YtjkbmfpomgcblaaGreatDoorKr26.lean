import Derived.Test.YtjkbmfpomgcblaaGreatDoorKr22
import Derived.Test.YtjkbmfpomgcblaaGreatDoorKr25
namespace Go.Proofs.YtjkbmfpomgcblaaGreatDoor
open Go.RowKit
theorem rbright_at (vf vh vw:Value) (f h:List Ent) (l:List Wr) (e:Nat) (pl:Int) (w:World) (hx:BatIs w vf vh vw f h l) (hb:batF f h l=(e,pl)) :
   Calls Tryz.prog 61 #[.agg #[vf,vh,vw]] w fun r w'=>r=.returned (.agg #[.int .i64 (e:Int),.int .i64 pl])∧Below w.heap.size w w' :=
 (rbright_any vf vh vw f h l w hx.1 hx.2.1 hx.2.2.1 hx.2.2.2.1 hx.2.2.2.2.1 hx.2.2.2.2.2.2).mono fun r w' ⟨h1,h2⟩=>⟨by rw [h1,hb];rfl,h2⟩
def rowF (w:World) (F:Nat) (e p:Int):Prop:=w.heap[F]? = some (.cells #[.int .i64 e,.int .i64 p] 46 (0,0))
theorem rowF.at {w:World} {F:Nat} {e p:Int} (h:rowF w F e p):w.cell? ⟨F,0,none⟩=some (.int .i64 e)∧w.cell? ⟨F,1,none⟩=some (.int .i64 p) :=
 ⟨by rw [cell_of_row _ _ _ _ _ (0,0) h];rfl,by rw [cell_of_row _ _ _ _ _ (0,0) h];rfl⟩
theorem rowF.frozen {w:World} {F:Nat} {e p:Int} (h:rowF w F e p) (j:Nat):w.frozen? ⟨F,j,none⟩=false:=frozen_of_row w F j _ _ h
theorem rowF.below {w w':World} {F m:Nat} {e p:Int} (h:rowF w F e p) (hb:Below m w w') (hm:F < m):rowF w' F e p:=(hb.block F hm).trans h
theorem rowF.put {w:World} {F:Nat} {e p:Int} (h:rowF w F e p) (a b:Int):rowF ((w.setCell ⟨F,0,none⟩ (.int .i64 a)).setCell ⟨F,1,none⟩ (.int .i64 b)) F a b :=
 heap_setCell_same _ F 1 _ _ _ (heap_setCell_same w F 0 _ _ _ h)
theorem below_put {w w':World} {m F:Nat} (hb:Below m w w') (hF:m≤F) (u v:Value):Below m w ((w'.setCell ⟨F,0,none⟩ u).setCell ⟨F,1,none⟩ v) :=
 Below.setCell (p:=⟨F,1,none⟩) (Below.setCell (p:=⟨F,0,none⟩) hb hF u) hF v
end Go.Proofs.YtjkbmfpomgcblaaGreatDoor
namespace Go.Proofs.YtjkbmfpomgcblaaGreatDoor
open Go.RowKit
theorem grown_alloc {w w':World} {o:Obj} {R:Nat} (h:(w.alloc o).grownBy w' (some R)):w.grownBy w' (some R) :=
 ⟨h.os,h.tape,h.output,Nat.le_trans (by simp) h.size,fun k hk hne=>(h.block k (by simp;omega) hne).trans (Below.heap_alloc _ _ _ hk)⟩
set_option maxRecDepth 100000 in
theorem number_ok (R:Nat) (s:ByteArray) (a n k:Nat) (most:Int) (w:World) (h:Rd w R s a) (hg:errT w) (hs:s.size≤1000000) (ha:a≤s.size) (h0 : -9223372036854775808≤most) (h1:most≤9223372036854775807) (hgv:intL (s.data.toList.drop a) most=(n,k,0)) (hk:k≤1000000) :
   Calls Tryz.prog 159 #[.pointer (some ⟨R,0,none⟩),.int .i64 most] w fun e w'=>e=.returned (.int .i64 (n:Int))∧Rd w' R s (a + k)∧w.grownBy w' (some R):=by
 have hmf:∀ (fn:Fn) (first cap:Array Value) (w:World),(Instr.makeFunc fn first cap).run Tryz.prog w=.ok (.func fn first cap) w:=fun _ _ _ _=>rfl
 have H:=Lib.hid (h.below ((Below.refl _ _).alloc (Nat.le_refl _) (.cells #[.int .i64 most] 3)))
 have HG:=Lib.hid (hg.alloc (.cells #[.int .i64 most] 3))
 have HGV:=Lib.hid hgv
 have H0:=Lib.hid h0
 have H1:=Lib.hid h1
 clear h hg hgv h0 h1
 go_enter Tryz.func159,Tryz.ntmps159
 go_wp2_with fail
 refine (getnum_ok R s a n k w.heap.size most _ H.out HG.out hs ha H0.out H1.out (by simp) HGV.out hk).mono ?_
 rintro r w1 ⟨rfl,hr1,hg1⟩
 have HR1:=Lib.hid hr1
 have HG1:=Lib.hid (grown_alloc hg1)
 clear hr1 hg1
 go_wp2
 go_ret
 exact ⟨rfl,HR1.out,HG1.out⟩
set_option maxRecDepth 100000 in
theorem number_bad (R:Nat) (s:ByteArray) (a x:Nat) (most:Int) (w:World) (h:Rd w R s a) (hg:errT w) (hs:s.size≤1000000) (ha:a≤s.size) (h0 : -9223372036854775808≤most) (h1:most≤9223372036854775807) (hgv:intL (s.data.toList.drop a) most=(0,0,x)) (hx:x≠0) :
   Calls Tryz.prog 159 #[.pointer (some ⟨R,0,none⟩),.int .i64 most] w fun e w'=>Thrown (x,(a:Int)) e w'∧w.grownBy w' (some R):=by
 have hmf:∀ (fn:Fn) (first cap:Array Value) (w:World),(Instr.makeFunc fn first cap).run Tryz.prog w=.ok (.func fn first cap) w:=fun _ _ _ _=>rfl
 have H:=Lib.hid (h.below ((Below.refl _ _).alloc (Nat.le_refl _) (.cells #[.int .i64 most] 3)))
 have HG:=Lib.hid (hg.alloc (.cells #[.int .i64 most] 3))
 have HGV:=Lib.hid hgv
 have H0:=Lib.hid h0
 have H1:=Lib.hid h1
 clear h hg hgv h0 h1
 go_enter Tryz.func159,Tryz.ntmps159
 go_wp2_with fail
 refine (getnum_bad R s a x 0 w.heap.size most _ H.out HG.out hs ha H0.out H1.out (by simp) HGV.out rfl hx).mono ?_
 rintro r w1 ⟨⟨t,u,rfl,hne,ha⟩,hg1⟩
 exact And.intro rfl ⟨⟨t,u,rfl,hne,ha⟩,grown_alloc hg1⟩
theorem wfill_ok (T R K:Int) (key val:ByteArray) (N:Int) (s V:ByteArray) (N':Int) (k:Nat) (w:World) (hk:key.size≤140737488351232) (hs:s.size≤140737488351232) (h0:fillE T R K key s.data.toList=0) (hV:fillV K s.data.toList=V) (hN:(getN K s.data.toList).1=N') (hn:fillN K s.data.toList=k) :
   Calls Tryz.prog 182 #[.agg #[.int .i64 T,.int .i64 R,.int .i64 K,.string key,.string val,.int .i64 N],.string s] w fun e w'=>e=.returned (.tuple #[.agg #[.int .i64 T,.int .i64 R,.int .i64 K,.string key,.string V,.int .i64 N'],.int .i64 (k:Int),.nilIface])∧Below w.heap.size w w':=by
 refine (wfill_any T R K key val N s w hk hs).mono ?_
 rintro e w' ⟨⟨r,rfl,hr⟩,hb⟩
 refine ⟨?_,hb⟩
 rcases hr with ⟨h1,_⟩ | ⟨_,h2⟩
 · exact absurd h0 h1
 · rw [h2,←hV,←hN,←hn];rfl
theorem wfill_bad (T R K:Int) (key val:ByteArray) (N:Int) (s:ByteArray) (x:Nat) (w:World) (hk:key.size≤140737488351232) (hs:s.size≤140737488351232) (h0:fillE T R K key s.data.toList=x) (hx:x≠0) :
   Calls Tryz.prog 182 #[.agg #[.int .i64 T,.int .i64 R,.int .i64 K,.string key,.string val,.int .i64 N],.string s] w fun e w'=>e=.returned (.tuple #[.agg #[.int .i64 0,.int .i64 0,.int .i64 0,.string ⟨#[]⟩,.string ⟨#[]⟩,.int .i64 0],.int .i64 0,.iface 44 (.int .i64 (x:Int))])∧Below w.heap.size w w':=by
 refine (wfill_any T R K key val N s w hk hs).mono ?_
 rintro e w' ⟨⟨r,rfl,hr⟩,hb⟩
 refine ⟨?_,hb⟩
 rcases hr with ⟨_,h2⟩ | ⟨h1,_⟩
 · rw [h2,h0,errV_bad hx];rfl
 · exact absurd (h0.symm.trans h1) hx
set_option maxRecDepth 100000 in
set_option maxHeartbeats 1000000 in
theorem nx1_ok (T R K:Int) (key val:ByteArray) (N:Int) (s V:ByteArray) (N':Int) (k Q:Nat) (w:World) (hQ:wrAt w Q T R K key val N) (hk:key.size≤140737488351232) (hs:s.size≤140737488351232) (h0:fillE T R K key s.data.toList=0) (hV:fillV K s.data.toList=V) (hN:(getN K s.data.toList).1=N') (hn:fillN K s.data.toList=k) :
   Calls Tryz.prog 213 #[.string s,.pointer (some ⟨Q,0,none⟩)] w fun e w'=>e=.returned (.tuple #[.agg #[.int .i64 T,.int .i64 R,.int .i64 K,.string key,.string V,.int .i64 N'],.int .i64 (k:Int),.nilIface])∧Below w.heap.size w w':=by
 obtain ⟨c0,c1,c2,c3,c4,c5⟩:=hQ.below ((Below.refl _ _).alloc (Nat.le_refl _) (.cells #[.int .i64 0,.int .i64 0,.int .i64 0,.string ⟨#[]⟩,.string ⟨#[]⟩,.int .i64 0] 59)) (lt_of_cell hQ.1)
 have H0:=Lib.hid h0
 have HV:=Lib.hid hV
 have HN:=Lib.hid hN
 have HK:=Lib.hid hn
 clear h0 hV hN hn hQ
 go_enter Tryz.func213,Tryz.ntmps213
 go_wp2_with fail
 refine (wfill_ok T R K key val N s V N' k _ hk hs H0.out HV.out HN.out HK.out).mono ?_
 rintro r w1 ⟨rfl,hb1⟩
 have hq:w1.heap[w.heap.size]? = some (.cells #[.int .i64 0,.int .i64 0,.int .i64 0,.string ⟨#[]⟩,.string ⟨#[]⟩,.int .i64 0] 59 (0,0)):=(hb1.block _ (by simp)).trans (heap_alloc_new w _)
 have HB1:Hid (Below w.heap.size w w1):=Lib.hid (((Below.refl _ _).alloc (Nat.le_refl _) _).trans (hb1.mono (by simp)))
 have HQ:=Lib.hid hq
 clear hb1 c0 c1 c2 c3 c4 c5
 have HI:=Lib.hid (wr_sized (.int .i64 T) (.int .i64 R) (.int .i64 K) (.string key) (.string V) (.int .i64 N'))
 have HONE:=Lib.hid (wr_ones T R K key V N')
 have HSAME:=Lib.hid (wr_same T R K key V N')
 obtain ⟨e0,e1,e2,e3,e4,e5⟩:=row_at (row_set hq #[.int .i64 T,.int .i64 R,.int .i64 K,.string key,.string V,.int .i64 N'])
 clear hq
 go_wp2_with (with_reducible refine wpList_store_row rfl _ _ _ rfl _ _ rfl rfl _ _ HQ.out HI.out HSAME.out HONE.out ?_)
 refine bodyPost_ret (v:=.tuple #[.agg #[.int .i64 T,.int .i64 R,.int .i64 K,.string key,.string V,.int .i64 N'],.int .i64 (k:Int),.nilIface]) (by simp [results,Tryz.results213,go_sem,e0,e1,e2,e3,e4,e5]) rfl ?_
 exact ⟨rfl,below_row HB1.out (Nat.le_refl _) _⟩
set_option maxRecDepth 100000 in
set_option maxHeartbeats 1000000 in
theorem nx1_bad (T R K:Int) (key val:ByteArray) (N:Int) (s:ByteArray) (x Q:Nat) (w:World) (hQ:wrAt w Q T R K key val N) (hk:key.size≤140737488351232) (hs:s.size≤140737488351232) (h0:fillE T R K key s.data.toList=x) (hx:x≠0) :
   Calls Tryz.prog 213 #[.string s,.pointer (some ⟨Q,0,none⟩)] w fun e w'=>e=.returned (.tuple #[.agg #[.int .i64 0,.int .i64 0,.int .i64 0,.string ⟨#[]⟩,.string ⟨#[]⟩,.int .i64 0],.int .i64 0,.iface 44 (.int .i64 (x:Int))])∧Below w.heap.size w w':=by
 obtain ⟨c0,c1,c2,c3,c4,c5⟩:=hQ.below ((Below.refl _ _).alloc (Nat.le_refl _) (.cells #[.int .i64 0,.int .i64 0,.int .i64 0,.string ⟨#[]⟩,.string ⟨#[]⟩,.int .i64 0] 59)) (lt_of_cell hQ.1)
 have H0:=Lib.hid h0
 clear h0 hQ
 go_enter Tryz.func213,Tryz.ntmps213
 go_wp2_with fail
 refine (wfill_bad T R K key val N s x _ hk hs H0.out hx).mono ?_
 rintro r w1 ⟨rfl,hb1⟩
 have hq:w1.heap[w.heap.size]? = some (.cells #[.int .i64 0,.int .i64 0,.int .i64 0,.string ⟨#[]⟩,.string ⟨#[]⟩,.int .i64 0] 59 (0,0)):=(hb1.block _ (by simp)).trans (heap_alloc_new w _)
 have HB1:Hid (Below w.heap.size w w1):=Lib.hid (((Below.refl _ _).alloc (Nat.le_refl _) _).trans (hb1.mono (by simp)))
 have HQ:=Lib.hid hq
 clear hb1 c0 c1 c2 c3 c4 c5
 have HI:=Lib.hid (wr_sized (.int .i64 0) (.int .i64 0) (.int .i64 0) (.string ⟨#[]⟩) (.string ⟨#[]⟩) (.int .i64 0))
 have HONE:=Lib.hid (wr_ones 0 0 0 ⟨#[]⟩ ⟨#[]⟩ 0)
 obtain ⟨e0,e1,e2,e3,e4,e5⟩:=row_at (row_set hq #[.int .i64 0,.int .i64 0,.int .i64 0,.string ⟨#[]⟩,.string ⟨#[]⟩,.int .i64 0])
 clear hq
 go_wp2_with (with_reducible refine wpList_store_row rfl _ _ _ rfl _ _ rfl rfl _ _ HQ.out HI.out rfl HONE.out ?_)
 refine bodyPost_ret (v:=.tuple #[.agg #[.int .i64 0,.int .i64 0,.int .i64 0,.string ⟨#[]⟩,.string ⟨#[]⟩,.int .i64 0],.int .i64 0,.iface 44 (.int .i64 (x:Int))]) (by simp [results,Tryz.results213,go_sem,e0,e1,e2,e3,e4,e5]) rfl ?_
 exact ⟨rfl,below_row HB1.out (Nat.le_refl _) _⟩
end Go.Proofs.YtjkbmfpomgcblaaGreatDoor
namespace Go.Proofs.YtjkbmfpomgcblaaGreatDoor
open Go.RowKit
theorem cell_grown {w w':World} {row:Option Nat} (hg:w.grownBy w' row) {b o:Nat} (hb:b < w.heap.size) (hne:some b≠row):w'.cell? ⟨b,o,none⟩=w.cell? ⟨b,o,none⟩:=by
 simp only [World.cell?];rw [hg.block b hb hne]
theorem errT.grownR {w w':World} {R:Nat} {s:ByteArray} {a:Nat} (h:errT w) (hr:Rd w R s a) (hg:w.grownBy w' (some R)):errT w':=by
 unfold errT at h ⊢
 rw [cell_grown hg (lt_of_cell h) (fun e=>by
   have e2:=Option.some.inj e
   have h2:=hr.cells.1
   rw [←e2,h] at h2
   cases h2)]
 exact h
theorem Rd.grown {w w':World} {R:Nat} {s:ByteArray} {a:Nat} {row:Option Nat} (h:Rd w R s a) (hg:w.grownBy w' row) (hne:some R≠row):Rd w' R s a:=(hg.block R h.cells.2.2.2 hne).trans h
theorem ownS_grown {w w':World} {B R:Nat} {v:Value} {l:List ByteArray} (h:ownsS w B v l) (hR:R < B) (hg:w.grownBy w' (some R)):ownsS w' B v l :=
 World.ownsRow.kept h hg (.inr (fun e=>by have:=(h.lt R e).1;omega))
def unTx (s:List UInt8) (a:Nat):(Nat×Nat) ⊕ (Nat×List ByteArray) :=
 if (intL (s.drop a) 60).2.2≠0 then .inl ((intL (s.drop a) 60).2.2,a) else unT s (intL (s.drop a) 60).1 (a + (intL (s.drop a) 60).2.1) []
theorem unTx_bad {s:List UInt8} {a k j e:Nat} (h:intL (s.drop a) 60=(k,j,e)) (he:e≠0):unTx s a=.inl (e,a):=by unfold unTx;rw [h,if_pos he]
theorem unTx_ok {s:List UInt8} {a k j:Nat} (h:intL (s.drop a) 60=(k,j,0)):unTx s a=unT s k (a + j) []:=by unfold unTx;rw [h,if_neg (by simp)]
def TextsIs (w:World) (R:Nat) (s:ByteArray) (r:(Nat×Nat) ⊕ (Nat×List ByteArray)) (e:Ending) (w':World):Prop :=
 w.grownBy w' (some R)∧((∃ x p,r=.inl (x,p)∧Thrown (x,(p:Int)) e w')∨∃ b T v,r=.inr (b,T)∧e=.returned v∧ownsS w' w.heap.size v T∧Rd w' R s b)
set_option maxRecDepth 100000 in
set_option maxHeartbeats 4000000 in
theorem texts_any (R:Nat) (s:ByteArray) (a:Nat) (w:World) (h:Rd w R s a) (hg:errT w) (hs:s.size≤1000000) (ha:a≤s.size) :
   Calls Tryz.prog 158 #[.pointer (some ⟨R,0,none⟩)] w (TextsIs w R s (unTx s.data.toList a)):=by
 have H:=Lib.hid h
 have HG:=Lib.hid hg
 have HSL:Hid (s.data.toList.length=s.size):=Lib.hid (size_data s).symm
 have hR:=h.cells.2.2.2
 clear h hg
 rcases intL_cases (s.data.toList.drop a) 60 with ⟨e,h1,he,_⟩ | ⟨n,k,h1,hn,hk1,hk10,hkl,hp⟩
 · have H1:=Lib.hid h1
   have HR:=Lib.hid (unTx_bad h1 he)
   clear h1
   go_enter Tryz.func158,Tryz.ntmps158
   go_wp2_with fail
   refine (number_bad R s a e 60 _ H.out HG.out hs ha (by decide) (by decide) H1.out he).mono ?_
   rintro r w1 ⟨⟨t,u,rfl,hne,ha⟩,hg1⟩
   exact And.intro rfl ⟨hg1,.inl ⟨e,a,HR.out,t,u,rfl,hne,ha⟩⟩
 · have H1:=Lib.hid h1
   have hkl2:k≤s.size - a:=by rw [List.length_drop,HSL.out] at hkl;exact hkl
   have HR:=Lib.hid (unTx_ok h1)
   clear h1 hkl hp
   go_enter Tryz.func158,Tryz.ntmps158
   go_wp2_with fail
   refine (number_ok R s a n k 60 _ H.out HG.out hs ha (by decide) (by decide) H1.out (by omega)).mono ?_
   rintro r w1 ⟨rfl,hr1,hg1⟩
   have HR1:=Lib.hid hr1
   have HG1:=Lib.hid hg1
   clear hr1 hg1
   go_wp2
   go_loopw [3,6] (fun v i wr=>∃ (j b:Nat) (T:List ByteArray),j≤n∧i=.int .i64 j∧b≤s.size∧T.length=j∧unTx s.data.toList a=unT s.data.toList (n - j) b T∧ownsS wr w.heap.size v T∧Rd wr R s b∧w.grownBy wr (some R)) (fun _ i _=>n - (intOf i).toNat)
   case atStart=>exact ⟨0,a + k,[],Nat.zero_le _,rfl,by omega,rfl,HR.out,ownsS_nil _ _,HR1.out,HG1.out⟩
   case round =>
     obtain ⟨j,b,T,hj,rfl,hb,hTl,hres,hos,hrd,hgr⟩:=hrel
     have HO:=Lib.hid hos
     have HRD:=Lib.hid hrd
     have HGR:=Lib.hid hgr
     have HRES:=Lib.hid hres
     have HTL:=Lib.hid hTl
     have HEG:=Lib.hid (HG.out.grownR H.out hgr)
     obtain ⟨ad,cp,rfl,_,_⟩:=hos.isTexts
     rw [hTl] at HO ⊢
     clear hos hrd hgr hres hTl
     by_cases hlt:j < n
     · obtain ⟨m,hm⟩:∃ m,n - j=m + 1:=⟨n - j - 1,by omega⟩
       rw [hm] at HRES
       obtain ⟨t,c,e,hg⟩:∃ t c e,getS (s.data.toList.drop b)=(t,c,e):=⟨_,_,_,rfl⟩
       by_cases he:e=0
       · subst he
         obtain ⟨w1',w2',w3',_⟩:=wspan_only hg
         rw [List.length_drop,HSL.out] at w2'
         have HN:Hid (unTx s.data.toList a=unT s.data.toList (n - (j + 1)) (b + c) (T ++ [⟨t.toArray⟩])):=Lib.hid (by rw [HRES.out,unT_ok hg,show n - (j + 1)=m by omega])
         have HGS:=Lib.hid hg
         obtain ⟨B,hB⟩:∃ B:ByteArray,(⟨t.toArray⟩:ByteArray)=B:=⟨_,rfl⟩
         rw [hB] at HN
         have HB:=Lib.hid hB
         clear hg hB w3'
         go_wp2_with fail
         refine (gettext_ok R s b 0 c t _ HRD.out HEG.out hs hb HGS.out (by omega) rfl).mono ?_
         rintro r w2 ⟨rfl,hr2,hg2⟩
         rw [HB.out]
         have HR2:=Lib.hid hr2
         have HO2:=Lib.hid (ownS_grown HO.out hR hg2)
         have HG2:=Lib.hid (grown_on HGR.out hg2 (fun k hk=>.inl (by injection hk with hk;exact hk.symm)))
         clear hr2 hg2
         go_wp2_with (at_builtin;refine wpList_append_str rfl _ _ rfl w.heap.size _ T rfl (HO2.out.alloc _) ⟨w2.heap.size,0,none⟩ 1 rfl B (by simp [Addr.add]) (by have:=HTL.out;omega) (by have:=HG2.out.size;simp;omega) ?_)
         intro g cap w4 ho4 hg4
         have HTL2:Hid (T.length + 1=j + 1):=Lib.hid (by rw [HTL.out])
         rw [HTL2.out] at ho4 ⊢
         have HO4:=Lib.hid ho4
         have hgA:w2.grownBy w4 (Value.slice ad j cp).ownBlock:=⟨hg4.os,hg4.tape,hg4.output,Nat.le_trans (by simp) hg4.size,fun k hk hne=>(hg4.block k (by simp;omega) hne).trans (Below.heap_alloc _ _ _ hk)⟩
         have hneR:some R≠(Value.slice ad j cp).ownBlock:=fun e=>by have:=(HO2.out.lt R e.symm).1;omega
         have HR4:=Lib.hid (HR2.out.grown hgA hneR)
         have HG4:=Lib.hid (grown_on HG2.out hgA (fun k hk=>.inr (HO2.out.lt k hk).1))
         clear ho4 hg4 hgA hneR
         go_wp2
         go_roundw
         case rel=>exact ⟨j + 1,b + c,T ++ [B],by omega,by go_num,by omega,by rw [List.length_append,HTL.out];rfl,HN.out,HO4.out,HR4.out,HG4.out⟩
         case measure=>simp [intOf];omega
       · have hz : t = [] ∧ c = 0 := by
           rcases getL_cases (s.data.toList.drop b) with ⟨x,hx,hxe⟩ | ⟨x,y,hx,_⟩
           · rw [getS_bad hx hxe] at hg;simp only [Prod.mk.injEq] at hg;exact ⟨hg.1.symm,hg.2.1.symm⟩
           · by_cases h2:2000 < x
             · rw [getS_big hx h2] at hg;simp only [Prod.mk.injEq] at hg;exact ⟨hg.1.symm,hg.2.1.symm⟩
             · by_cases h3:(s.data.toList.drop b).length < y + x
               · rw [getS_miss hx h2 h3] at hg;simp only [Prod.mk.injEq] at hg;exact ⟨hg.1.symm,hg.2.1.symm⟩
               · rw [getS_ok hx h2 h3] at hg;simp only [Prod.mk.injEq] at hg;exact absurd hg.2.2.symm he
         obtain ⟨rfl,rfl⟩:=hz
         have HN:Hid (unTx s.data.toList a=.inl (e,b)):=Lib.hid (by rw [HRES.out,unT_bad hg he])
         have HGS:=Lib.hid hg
         clear hg
         go_wp2_with fail
         refine (gettext_bad R s b e 0 [] _ HRD.out HEG.out hs hb HGS.out rfl he rfl).mono ?_
         rintro r w2 ⟨⟨t,u,rfl,hne,ha⟩,hg2⟩
         exact And.intro rfl ⟨grown_on HGR.out hg2 (fun k hk=>.inl (by injection hk with hk;exact hk.symm)),.inl ⟨e,b,HN.out,t,u,rfl,hne,ha⟩⟩
     · have HN:Hid (unTx s.data.toList a=.inr (b,T)):=Lib.hid (by rw [HRES.out,show n - j=0 by omega];rfl)
       go_wp2
       go_ret
       exact ⟨HGR.out,.inr ⟨b,T,_,HN.out,rfl,HO.out,HRD.out⟩⟩
end Go.Proofs.YtjkbmfpomgcblaaGreatDoor
