import Derived.Test.YtjkbmfpomgcblaaGreatDoorKp25
import Derived.WalkLawsBesides
import Derived.Defers
import Derived.Recover
namespace Go.Proofs.YtjkbmfpomgcblaaGreatDoor
open Go.RowKit
set_option maxRecDepth 100000 in
theorem bthrow_nil (w:World):Calls Tryz.prog 103 #[.nilIface] w fun e w'=>e=.returned (.tuple #[])∧w=w':=by
 go_enter Tryz.func103,Tryz.ntmps103
 go_wp2
 go_end0
 exact ⟨rfl,rfl⟩
set_option maxRecDepth 100000 in
theorem bthrow_err (t:TypeId) (v:Value) (w:World):Calls Tryz.prog 103 #[.iface t v] w fun e w'=>e=.panicked [{ v:=.iface t v,recovered:=false }]∧w'=w:=by
 go_enter Tryz.func103,Tryz.ntmps103
 go_wp2
 exact ⟨rfl,rfl,rfl⟩
set_option maxRecDepth 100000 in
theorem wtext_any (B b:Nat) (l:List UInt8) (s:ByteArray) (w:World) (h:isBldW w B b l) (hl:l.length≤1000000) (hs:s.size≤1000000) (hBw:B≤w.heap.size) :
   Calls Tryz.prog 104 #[.pointer (some ⟨b,0,none⟩),.string s,.nilIface] w fun e w'=>e=.returned (.tuple #[])∧isBldW w' B b (l ++ s.data.toList)∧Below B w w'∧NonB b w w':=by
 have H:=Lib.hid h
 clear h
 go_enter Tryz.func104,Tryz.ntmps104
 go_wp2_with fail
 refine (bthrow_nil _).mono ?_
 rintro r w1 ⟨rfl,rfl⟩
 go_wp2_with fail
 refine (wbld_write B b l s _ H.out (by omega) hBw).mono ?_
 rintro r w2 ⟨rfl,hbl,hb2,hn2⟩
 have H2:=Lib.hid hbl
 have HB2:=Lib.hid hb2
 have HN2:=Lib.hid hn2
 clear hbl hb2 hn2
 go_wp2
 go_end0
 exact ⟨rfl,H2.out,HB2.out,HN2.out⟩
set_option maxRecDepth 100000 in
set_option maxHeartbeats 2000000 in
theorem wnum2_any (B b n:Nat) (l:List UInt8) (w:World) (h:isBldW w B b l) (hn:n≤1099511627776) (hl:l.length≤1000000) (hBw:B≤w.heap.size) :
   Calls Tryz.prog 108 #[.pointer (some ⟨b,0,none⟩),.int .i64 (n:Int)] w fun e w'=>e=.returned (.tuple #[])∧isBldW w' B b (l ++ putL n)∧Below B w w'∧NonB b w w':=by
 have H:=Lib.hid h
 have hp:=putL_le10 (n:=n) (by omega)
 have hk:IntKind.u64.wrap (n:Int)=(n:Int):=IntWalk.u64_in _ (by omega)
 obtain ⟨P,hP⟩:∃ P:ByteArray,⟨(putL n).toArray⟩=P:=⟨_,rfl⟩
 have hPd:putL n=P.data.toList:=by rw [←hP]
 have hPs:P.size≤10:=by rw [←hP,bs_size];exact hp
 have HPD:=Lib.hid hPd
 have HP:=Lib.hid hP
 rw [hPd]
 clear h hp hP hPd
 go_enter Tryz.func108,Tryz.ntmps108
 go_wp2
 go_region_held3 (fun w'=>True) (trivial) (first
   | (go_at_call 89;((with_reducible refine (put_nat n _ (by omega)).mono ?_);rintro r w1 ⟨rfl,hb1⟩;rw [HP.out];have HB1:Hid (Below w.heap.size w w1):=Lib.hid (undrew3 hb1);clear hb1))
   | (go_at_call 44;((with_reducible refine (wbld_write B b l P w1 (H.out.below HB1.out) (by omega) (by have:=HB1.out.size;omega)).mono ?_);rintro r w2 ⟨rfl,hbl,hb2,hn2⟩;have H2:=Lib.hid hbl;have HB2:=Lib.hid ((HB1.out.mono hBw).trans hb2);have HN2:=Lib.hid ((NonB.of (b:=b) HB1.out).trans hn2 HB1.out.size);clear hbl hb2 hn2))
   | fail)
 go_wp2
 go_end0
 exact ⟨rfl,H2.out,HB2.out,HN2.out⟩
set_option maxRecDepth 100000 in
set_option maxHeartbeats 4000000 in
theorem keysOf_any (v:Value) (l:List Wr) (w:World) (hv:IsWrs w v l) (hl:l.length≤1000000) :
   Calls Tryz.prog 107 #[v] w fun e w'=>∃ u,e=.returned u∧ownsS w' w.heap.size u (keysW l)∧Below w.heap.size w w':=by
 obtain ⟨a1,c1,rfl,f1⟩:=hv.form
 have F1:=Lib.hid f1
 obtain ⟨n,hn⟩:∃ n,n=l.length:=⟨_,rfl⟩
 rw [←hn] at hl ⊢
 have HN:=Lib.hid hn
 clear f1 hn hv
 go_enter Tryz.func107,Tryz.ntmps107
 go_wp2
 go_loopw [3,8] (fun x i wr=>∃ k:Nat,k≤n∧i=.int .i64 k∧ownsS wr w.heap.size x ((keysW l).take k)∧Below w.heap.size w wr) (fun _ i _=>n - (intOf i).toNat)
 case atStart=>exact ⟨0,Nat.zero_le _,rfl,ownsS_nil _ _,Below.refl _ _⟩
 case round =>
   obtain ⟨k,hk,rfl,hos,hbel⟩:=hrel
   have HO:=Lib.hid hos
   have HB:=Lib.hid hbel
   obtain ⟨ad,cp,rfl,hcp,g1⟩:=hos.isTexts
   have hkl:((keysW l).take k).length=k:=by rw [List.length_take];have:=HN.out;unfold keysW;rw [List.length_map];omega
   have HKL:=Lib.hid hkl
   rw [hkl] at HO hcp
   rw [hkl]
   clear hos hbel hkl g1 hcp
   by_cases hlt:k < n
   · obtain ⟨x, hx⟩ : ∃ x, l[k]? = some x := ⟨l[k]'(by have := HN.out; omega), List.getElem?_eq_getElem _⟩
     obtain ⟨b1,o1,rfl,hb1,p0,p1,p2,p3,p4,p5⟩:=F1.out k x hx
     have q0:=(HB.out.cell (p:=⟨b1,o1 + k * 6,none⟩) hb1).trans p0
     have q1:=(HB.out.cell (p:=⟨b1,o1 + k * 6 + 1,none⟩) hb1).trans p1
     have q2:=(HB.out.cell (p:=⟨b1,o1 + k * 6 + 2,none⟩) hb1).trans p2
     have q3:=(HB.out.cell (p:=⟨b1,o1 + k * 6 + 3,none⟩) hb1).trans p3
     have q4:=(HB.out.cell (p:=⟨b1,o1 + k * 6 + 4,none⟩) hb1).trans p4
     have q5:=(HB.out.cell (p:=⟨b1,o1 + k * 6 + 5,none⟩) hb1).trans p5
     have HTK:Hid ((keysW l).take k ++ [x.key]=(keysW l).take (k + 1)):=Lib.hid (show _=_ by
       have h2:(keysW l)[k]? = some x.key:=by unfold keysW;rw [List.getElem?_map,hx];rfl
       obtain ⟨hk2,e⟩:=List.getElem?_eq_some_iff.1 h2;rw [←e,List.take_append_getElem hk2])
     obtain ⟨T,R,K,key,val,N⟩:=x
     dsimp only at q0 q1 q2 q3 q4 q5 HTK
     clear p0 p1 p2 p3 p4 p5 hx
     obtain ⟨L,hL⟩:∃ L,(keysW l).take k=L:=⟨_,rfl⟩
     rw [hL] at HO HKL HTK
     clear hL
     go_wp2_with (at_builtin;refine wpList_append_str rfl _ _ rfl w.heap.size _ L rfl ((HO.out.alloc _).alloc _) ⟨wr.heap.size + 1,0,none⟩ 1 rfl key (by simp [Addr.add]) (by have:=HKL.out;omega) (by have:=HB.out.size;simp;omega) ?_)
     intro g cap w4 ho4 hg4
     rw [HTK.out] at ho4
     have HO4:=Lib.hid ho4
     have HB4:Hid (Below w.heap.size w w4):=Lib.hid (((HB.out.alloc HB.out.size _).alloc (by have:=HB.out.size;simp;omega) _).grown hg4 (by have:=HB.out.size;simp;omega) (fun g hg=>(HO.out.lt g hg).1))
     have HKL1:Hid (L.length + 1=k + 1):=Lib.hid (by rw [HKL.out])
     rw [HKL1.out] at HO4 ⊢
     clear ho4 hg4
     go_wp2
     go_roundw
     case rel=>exact ⟨k + 1,by omega,by go_num,HO4.out,HB4.out⟩
     case measure=>simp [intOf];omega
   · have HT:Hid ((keysW l).take k=keysW l):=Lib.hid (List.take_of_length_le (by unfold keysW;rw [List.length_map];have:=HN.out;omega))
     go_wp2
     go_ret
     rw [HT.out] at HO
     exact ⟨_,rfl,HO.out,HB.out⟩
end Go.Proofs.YtjkbmfpomgcblaaGreatDoor
namespace Go.Proofs.YtjkbmfpomgcblaaGreatDoor
open Go.RowKit
def areD (w:World) (B:Nat):List Value→List (List Ent)→Prop
 | [],[]=>True
 | v :: vs,r :: rs=>ownsE w 0 v r∧(∀ k,v.ownBlock=some k→k < B)∧areD w B vs rs
 | _,_=>False
theorem areD_kept {w w':World} {B B':Nat} {row:Option Nat} (hg:w.grownBy w' row) (hB:B≤B') (hne:∀ v r,ownsE w 0 v r→(∀ k,v.ownBlock=some k→k < B)→v.ownBlock=none∨v.ownBlock≠row) {vs:List Value}:∀ {rs:List (List Ent)},areD w B vs rs→areD w' B' vs rs:=by
 induction vs with
 | nil=>intro rs h;cases rs with
   | nil=>trivial
   | cons r rs=>exact h.elim
 | cons v vs ih=>intro rs h;cases rs with
   | nil=>exact h.elim
   | cons r rs=>exact ⟨World.ownsRow.kept h.1 hg (hne v r h.1 h.2.1),fun k hk=>Nat.lt_of_lt_of_le (h.2.1 k hk) hB,ih h.2.2⟩
theorem grown_below {w w':World} (h:Below w.heap.size w w'):w.grownBy w' none:=⟨h.os,h.tape,h.output,h.size,fun k hk _=>h.block k hk⟩
theorem own_apartV {w:World} {base base':Nat} {e1 e2:TypeId} {k1 k2 n1 n2:Nat} {v1 v2:Value} {x1 x2:List Value} (h1:w.ownsRow base e1 k1 v1 n1 x1) (h2:w.ownsRow base' e2 k2 v2 n2 x2) (hne:e1≠e2) :
   v1.ownBlock=none∨v1.ownBlock≠v2.ownBlock:=by
 rcases h1.2 with ⟨rfl,_⟩ | ⟨g,cap,cur,rfl,_,hh,_⟩
 · exact .inl rfl
 · refine .inr ?_
   rcases h2.2 with ⟨rfl,_⟩ | ⟨g',cap',cur',rfl,_,hh',_⟩
   · simp [Value.ownBlock]
   · intro e
     have:g=g':=by simpa [Value.ownBlock] using e
     subst this
     rw [hh] at hh'
     injection hh' with hh'
     injection hh' with _ ht
     exact hne ht
def RW (w:World) (rv:Value) (R:List (List Ent)) (cur:List Ent) (wr:World):Prop :=
 ∃ (g cap B:Nat) (vs:List Value) (v:Value),rv=.slice (some ⟨g,0,none⟩) (vs.length + 1) cap∧ownsR wr (w.heap.size + 1) rv (vs ++ [v])∧areD wr B vs R∧ownsE wr B v cur∧w.heap.size + 1≤B∧B≤wr.heap.size
theorem RW.below {w wr w':World} {rv:Value} {R:List (List Ent)} {cur:List Ent} (h:RW w rv R cur wr) (hb:Below wr.heap.size wr w'):RW w rv R cur w':=by
 obtain ⟨g,cap,B,vs,v,h1,h2,h3,h4,h5,h6⟩:=h
 exact ⟨g,cap,B,vs,v,h1,h2.below hb,areD_kept (grown_below hb) (Nat.le_refl _) (fun u r _ _=>by cases hu:u.ownBlock with
   | none=>exact .inl rfl
   | some k=>exact .inr (by simp)) h3,h4.below hb,h5,Nat.le_trans h6 hb.size⟩
theorem RW.grow {w w2 w3:World} {g cap B g2 cap2 m:Nat} {vs:List Value} {v:Value} {R:List (List Ent)} {cur cur2:List Ent}
   (ho:ownsR w2 (w.heap.size + 1) (.slice (some ⟨g,0,none⟩) (vs.length + 1) cap) (vs ++ [v])) (ha:areD w2 B vs R) (he:ownsE w2 B v cur) (hB1:w.heap.size + 1≤B) (hB2:B≤w2.heap.size)
   (ho3:ownsE w3 B (.slice (some ⟨g2,0,none⟩) m cap2) cur2) (hg3:w2.grownBy w3 v.ownBlock) (hr:v.ownBlock=some g2∨g2=w2.heap.size) :
   RW w (.slice (some ⟨g,0,none⟩) (vs.length + 1) cap) R cur2 (w3.setCell ⟨g,vs.length,none⟩ (.slice (some ⟨g2,0,none⟩) m cap2))∧w2.grownBy w3 v.ownBlock∧B≤g2:=by
 have hog:=ho.lt g rfl
 have hap:v.ownBlock≠some g:=fun e=>by
   rcases own_apartV he ho (show 74≠22 by decide) with h | h
   · rw [h] at e;cases e
   · exact h e
 have ho4:ownsR w3 (w.heap.size + 1) (.slice (some ⟨g,0,none⟩) (vs.length + 1) cap) (vs ++ [v]):=World.ownsRow.kept ho hg3 (.inr (fun e=>hap e.symm))
 obtain ⟨ho5,hg5⟩:=ho4.stored rfl (.slice (some ⟨g2,0,none⟩) m cap2)
 have hne:g2≠g:=by
   rcases hr with hr | hr
   · intro e;rw [e] at hr;exact hap hr
   · omega
 have ha3:areD w3 B vs R:=areD_kept hg3 (Nat.le_refl _) (fun u r _ hu=>by
   cases huo:u.ownBlock with
   | none=>exact .inl rfl
   | some k =>
     refine .inr (fun e=>?_)
     have h1:=hu k huo
     have h2:=(he.lt k e.symm).1
     omega) ha
 refine ⟨⟨g,cap,B,vs,_,rfl,ho5,areD_kept hg5 (Nat.le_refl _) (fun u r hu _=>?_) ha3,World.ownsRow.kept ho3 hg5 (.inr (by simp [Value.ownBlock];exact hne)),hB1,Nat.le_trans hB2 (Nat.le_trans hg3.size hg5.size)⟩,hg3,(ho3.lt g2 rfl).1⟩
 rcases own_apartV hu ho4 (show 74≠22 by decide) with h | h
 · exact .inl h
 · exact .inr h
end Go.Proofs.YtjkbmfpomgcblaaGreatDoor
namespace Go.Proofs.YtjkbmfpomgcblaaGreatDoor
open Go.RowKit
def Sc (w:World) (S:Nat) (s:ByteArray) (a:Nat):Prop:=w.heap[S]? = some (.cells #[.string s,.int .i64 (a:Int)] 97 (0,0))
theorem Sc.cells {w:World} {S:Nat} {s:ByteArray} {a:Nat} (h:Sc w S s a):w.cell? ⟨S,0,none⟩=some (.string s)∧w.cell? ⟨S,1,none⟩=some (.int .i64 (a:Int))∧w.frozen? ⟨S,1,none⟩=false∧S < w.heap.size:=by
 refine ⟨cell_of_row _ _ 0 _ _ (0,0) h,cell_of_row _ _ 1 _ _ (0,0) h,Lib.frozen_of_heap h 1,?_⟩
 exact (Array.getElem?_eq_some_iff.1 h).1
theorem Sc.kept {w w':World} {S:Nat} {s:ByteArray} {a:Nat} {row:Option Nat} (h:Sc w S s a) (hg:w.grownBy w' row) (hne:row≠some S):Sc w' S s a:=(hg.block S h.cells.2.2.2 (fun e=>hne e.symm)).trans h
theorem Sc.moved {w:World} {S:Nat} {s:ByteArray} {a b:Nat} (h:Sc w S s a):Sc (w.setCell ⟨S,1,none⟩ (.int .i64 (b:Int))) S s b:=by
 unfold Sc at h ⊢
 simp [World.setCell,Array.getElem?_modify,h]
theorem grown_on {w w1 w2:World} {S:Nat} {row:Option Nat} (h:w.grownBy w1 (some S)) (h2:w1.grownBy w2 row) (hr:∀ k,row=some k→k=S∨w.heap.size≤k):w.grownBy w2 (some S):=by
 refine ⟨h2.os.trans h.os,h2.tape.trans h.tape,h2.output.trans h.output,Nat.le_trans h.size h2.size,fun k hk hne=>?_⟩
 rw [h2.block k (Nat.lt_of_lt_of_le hk h.size) (fun e=>by
   rcases hr k e.symm with rfl | h
   · exact hne rfl
   · omega)]
 exact h.block k hk hne
end Go.Proofs.YtjkbmfpomgcblaaGreatDoor
namespace Go.Proofs.YtjkbmfpomgcblaaGreatDoor
open Go.RowKit
set_option maxRecDepth 100000 in
set_option maxHeartbeats 4000000 in
theorem bigK_any (vf vh vw:Value) (f h:List Ent) (l:List Wr) (w:World) (hx:BatIs w vf vh vw f h l) :
   Calls Tryz.prog 13 #[.agg #[vf,vh,vw]] w fun e w'=>e=.returned (.bool (bigV 200 f h l))∧Below w.heap.size w w':=by
 obtain ⟨hf,hh,hv,hlf,hlh,hlw,hok⟩:=hx
 obtain ⟨af,cf,rfl,_⟩:=hf.form
 obtain ⟨ah,ch,rfl,_⟩:=hh.form
 obtain ⟨aw,cw,rfl,fw⟩:=hv.form
 have FW:=Lib.hid fw
 obtain ⟨nf,hnf⟩:∃ n,n=f.length:=⟨_,rfl⟩
 obtain ⟨nh,hnh⟩:∃ n,n=h.length:=⟨_,rfl⟩
 obtain ⟨n,hn⟩:∃ n,n=l.length:=⟨_,rfl⟩
 rw [←hnf,←hnh,←hn]
 rw [←hn] at hlw
 have HN:=Lib.hid hn
 have hbv:bigV 200 f h l=decide (200 < bigS (IntKind.i64.wrap (IntKind.i64.wrap ((nf:Int) + (nh:Int)) + (n:Int))) l):=by rw [hnf,hnh,hn];rfl
 obtain ⟨s1,hs1⟩:∃ s,IntKind.i64.wrap ((nf:Int) + (nh:Int))=s:=⟨_,rfl⟩
 obtain ⟨s2,hs2⟩:∃ s,IntKind.i64.wrap (s1 + (n:Int))=s:=⟨_,rfl⟩
 rw [hs1,hs2] at hbv
 have HBV:=Lib.hid hbv
 clear hf hh hv hlf hlh hnf hnh hn fw hok hbv
 go_enter Tryz.func13,Tryz.ntmps13
 go_wp2
 clear hs1 hs2
 go_loopw [3,20] (fun s i wr=>∃ (x:Int) (k:Nat),s=.int .i64 x∧k≤n∧i=.int .i64 k∧bigS s2 l=bigS x (l.drop k)∧Below w.heap.size w wr) (fun _ i _=>n - (intOf i).toNat)
 case atStart=>exact ⟨_,0,rfl,by omega,rfl,rfl,(Below.refl _ _).alloc (Nat.le_refl _) _⟩
 case round =>
   obtain ⟨x,k,rfl,hk,rfl,heq,hbel⟩:=hrel
   have HEQ:=Lib.hid heq
   clear heq
   have HB:=Lib.hid hbel
   have hzr:=hbel.size
   clear hbel
   by_cases hlt:k < n
   · obtain ⟨t, ht⟩ : ∃ t, l[k]? = some t := ⟨l[k]'(by have := HN.out; omega), List.getElem?_eq_getElem _⟩
     obtain ⟨b1,o1,rfl,hb1,p0,p1,p2,p3,p4,p5⟩:=FW.out k t ht
     have q0:=(HB.out.cell (p:=⟨b1,o1 + k * 6,none⟩) hb1).trans p0
     have q1:=(HB.out.cell (p:=⟨b1,o1 + k * 6 + 1,none⟩) hb1).trans p1
     have q2:=(HB.out.cell (p:=⟨b1,o1 + k * 6 + 2,none⟩) hb1).trans p2
     have q3:=(HB.out.cell (p:=⟨b1,o1 + k * 6 + 3,none⟩) hb1).trans p3
     have q4:=(HB.out.cell (p:=⟨b1,o1 + k * 6 + 4,none⟩) hb1).trans p4
     have q5:=(HB.out.cell (p:=⟨b1,o1 + k * 6 + 5,none⟩) hb1).trans p5
     have hd:=bigS_drop x ht
     obtain ⟨T,R,K,key,val,N⟩:=t
     simp only at q0 q1 q2 q3 q4 q5 hd
     obtain ⟨u,hu⟩:∃ u,IntKind.i64.wrap ((key.size:Int) + (val.size:Int))=u:=⟨_,rfl⟩
     obtain ⟨y,hy⟩:∃ y,IntKind.i64.wrap (u.tdiv 8)=y:=⟨_,rfl⟩
     obtain ⟨z,hz⟩:∃ z,IntKind.i64.wrap (x + y)=z:=⟨_,rfl⟩
     rw [hu,hy,hz] at hd
     have HD:Hid (bigS s2 l=bigS z (l.drop (k + 1))):=Lib.hid (HEQ.out.trans hd)
     clear hd
     clear p0 p1 p2 p3 p4 p5 ht
     go_wp2
     go_roundw
     case rel=>exact ⟨_,k + 1,rfl,by omega,by go_num,HD.out,HB.out.alloc hzr _⟩
     case measure=>simp [intOf];omega
   · have HD:Hid (bigV 200 f h l=decide (200 < x)):=Lib.hid (by rw [HBV.out,HEQ.out,List.drop_eq_nil_of_le (by have:=HN.out;omega)];rfl)
     go_wp2
     go_ret
     exact ⟨by rw [HD.out];rfl,HB.out⟩
theorem bigK_as (vf vh vw:Value) (f h:List Ent) (l:List Wr) (c:Bool) (w:World) (hx:BatIs w vf vh vw f h l) (hc:bigV 200 f h l=c) :
   Calls Tryz.prog 13 #[.agg #[vf,vh,vw]] w fun e w'=>e=.returned (.bool c)∧Below w.heap.size w w':=by
 subst hc;exact bigK_any vf vh vw f h l w hx
theorem brightB (vf vh vw:Value) (f h:List Ent) (l:List Wr) (w:World) (hx:BatIs w vf vh vw f h l) (hg:errT w) :
   Calls Tryz.prog 43 #[.agg #[vf,vh,vw]] w (VRightIs w (batF f h l)) :=
 bright_any vf vh vw f h l w hx.1 hx.2.1 hx.2.2.1 hx.2.2.2.1 hx.2.2.2.2.1 hx.2.2.2.2.2.2 hg
set_option maxRecDepth 100000 in
set_option maxHeartbeats 4000000 in
theorem held_any (vf vh vw:Value) (f h:List Ent) (l:List Wr) (w:World) (hx:BatIs w vf vh vw f h l) (hg:errT w) :
   Calls Tryz.prog 21 #[.agg #[vf,vh,vw]] w fun e w'=>∃ c,e=.returned (.bool c)∧(c=true→rightB f h l)∧Below w.heap.size w w':=by
 have HX:=Lib.hid hx
 have HG:=Lib.hid hg
 obtain ⟨hf,hh,hv,_⟩:=hx
 obtain ⟨af,cf,rfl,_⟩:=hf.form
 obtain ⟨ah,ch,rfl,_⟩:=hh.form
 obtain ⟨aw,cw,rfl,_⟩:=hv.form
 have HA:=Lib.hid (batAt_new w (.slice af f.length cf) (.slice ah h.length ch) (.slice aw l.length cw) 25)
 have HW0:Hid (Below w.heap.size w (w.alloc (.cells #[.slice af f.length cf,.slice ah h.length ch,.slice aw l.length cw] 25))):=Lib.hid ((Below.refl _ _).alloc (Nat.le_refl _) _)
 have HZ:Hid (w.heap.size < (w.alloc (.cells #[.slice af f.length cf,.slice ah h.length ch,.slice aw l.length cw] 25)).heap.size):=Lib.hid (by simp)
 generalize f.length=nf at HX HA HW0 HZ ⊢
 generalize h.length=nh at HX HA HW0 HZ ⊢
 generalize l.length=n at HX HA HW0 HZ ⊢
 clear hf hh hv hg
 go_enter Tryz.func21,Tryz.ntmps21
 go_wp2_with fail
 generalize w.alloc (.cells #[.slice af nf cf,.slice ah nh ch,.slice aw n cw] 25)=W at HA HW0 HZ ⊢
 obtain ⟨c,hc⟩:∃ c,bigV 200 f h l=c:=⟨_,rfl⟩
 refine (bigK_as _ _ _ f h l c _ (HX.out.below HW0.out) hc).mono ?_
 clear hc
 rintro r w1 ⟨rfl,hb1⟩
 have HB1:Hid (Below w.heap.size w w1):=Lib.hid (HW0.out.trans (hb1.mono HW0.out.size))
 obtain ⟨d0,d1,d2⟩:=HA.out.below hb1 HZ.out
 clear hb1
 cases c with
 | true =>
   go_wp2
   go_ret
   exact ⟨_,rfl,(fun hq=>by cases hq),HB1.out⟩
 | false =>
   go_wp2_with fail
   refine (brightB _ _ _ f h l _ (HX.out.below HB1.out) (HG.out.below HB1.out)).mono ?_
   rintro r w2 ⟨err,rfl,hat,hb2⟩
   have HB2:Hid (Below w.heap.size w w2):=HB1.out.trans (hb2.mono HB1.out.size)
   clear hb2 d0 d1 d2
   by_cases h0:(batF f h l).1=0
   · have H0:=Lib.hid h0
     obtain rfl:=hat.nil h0
     clear hat h0
     go_wp2
     go_ret
     exact ⟨_,rfl,fun _=>H0.out,HB2.out⟩
   · obtain ⟨t,u,rfl⟩:=hat.iface h0
     clear hat h0
     go_wp2
     go_ret
     exact ⟨_,rfl,(fun hq=>by simp at hq),HB2.out⟩
end Go.Proofs.YtjkbmfpomgcblaaGreatDoor
