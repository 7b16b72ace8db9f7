import Derived.Test.YtjkbmfpomgcblaaGreatDoorKr32
import Derived.Test.YtjkbmfpomgcblaaGreatDoorKr31
namespace Go.Proofs.YtjkbmfpomgcblaaGreatDoor
open Go.RowKit
def US (w:World) (R:Nat) (s:ByteArray) (a:Nat) (vf vh vt vn vw:Value) (f h:List Ent) (T:List ByteArray) (N:List Nat) (W:List Wr) (wr:World):Prop :=
 UD w wr vf vh vw 0 (-1)∧Sc wr R s a∧OB (R + 2) vf vh vt vn vw f h T N W wr∧w.heap.size + 2≤R∧R + 2≤wr.heap.size
section
variable {w wr w':World} {R a b:Nat} {s:ByteArray} {vf vh vt vn vw:Value} {f h:List Ent} {T:List ByteArray} {N:List Nat} {W:List Wr}
theorem US.next (u:US w R s a vf vh vt vn vw f h T N W wr) (hs:Sc w' R s b) (hg:wr.grownBy w' (some R)):US w R s b vf vh vt vn vw f h T N W w' :=
 ⟨u.1.kept hg (fun k hk=>by injection hk with hk;have:=u.2.2.2.1;omega),hs,u.2.2.1.keep hg (fun k hk=>by injection hk with hk;omega),u.2.2.2.1,Nat.le_trans u.2.2.2.2 hg.size⟩
theorem US.below (u:US w R s a vf vh vt vn vw f h T N W wr) (hb:Below wr.heap.size wr w'):US w R s a vf vh vt vn vw f h T N W w' :=
 ⟨u.1.kept (row:=none) ⟨hb.os,hb.tape,hb.output,hb.size,fun k hk _=>hb.block k hk⟩ (fun k hk=>by cases hk),u.2.1.kept (row:=none) ⟨hb.os,hb.tape,hb.output,hb.size,fun k hk _=>hb.block k hk⟩ (by simp),u.2.2.1.below hb,u.2.2.2.1,Nat.le_trans u.2.2.2.2 hb.size⟩
theorem US.alloc (u:US w R s a vf vh vt vn vw f h T N W wr) (o:Obj):US w R s a vf vh vt vn vw f h T N W (wr.alloc o):=u.below ((Below.refl _ _).alloc (Nat.le_refl _) o)
theorem US.drew (u:US w R s a vf vh vt vn vw f h T N W wr):US w R s a vf vh vt vn vw f h T N W wr.drew:=u.below (Below.refl _ _).drew
theorem US.go (u:US w R s a vf vh vt vn vw f h T N W wr):US w R s b vf vh vt vn vw f h T N W (wr.setCell ⟨R,1,none⟩ (.int .i64 (b:Int))) :=
 u.next u.2.1.moved (grown_setQ wr R 1 _)
theorem own_noU {B X k n:Nat} {e t:TypeId} {v:Value} {xs:List Value} {cs:Array Value} {fr:Nat×Nat} (ho:wr.ownsRow B e k v n xs) (hX:wr.heap[X]? = some (.cells cs t fr)) (hne:e≠t):v.ownBlock≠some X:=by
 rcases ho.2 with ⟨rfl,_⟩ | ⟨g,cap,cur,rfl,_,hh,_⟩
 · simp [Value.ownBlock]
 · intro e'
   have:g=X:=by simpa [Value.ownBlock] using e'
   subst this
   rw [hX] at hh
   injection hh with hh
   injection hh with _ ht
   exact hne ht.symm
theorem own_setU {X o B k n:Nat} {e:TypeId} {v x:Value} {xs:List Value} (ho:wr.ownsRow B e k v n xs) (hne:v.ownBlock≠some X):(wr.setCell ⟨X,o,none⟩ x).ownsRow B e k v n xs :=
 World.ownsRow.kept ho (grown_setQ wr X o x) (by
   cases hv:v.ownBlock with
   | none=>exact .inl rfl
   | some g=>exact .inr (by rw [←hv];exact hne))
theorem US.store {X o:Nat} {x:Value} {cs:Array Value} (u:US w R s a vf vh vt vn vw f h T N W wr) (hX:wr.heap[X]? = some (.cells cs 59 (0,0))) (hXR:R + 2≤X) (hne:vw.ownBlock≠some X) :
   US w R s a vf vh vt vn vw f h T N W (wr.setCell ⟨X,o,none⟩ x):=by
 obtain ⟨u1,u2,⟨o1,o2,o3,o4,o5⟩,u4,u5⟩:=u
 refine ⟨u1.kept (grown_setQ wr X o x) (fun k hk=>by injection hk with hk;omega),u2.kept (grown_setQ wr X o x) (by simp;omega),⟨own_setU o1 (own_noU o1 hX (by decide)),own_setU o2 (own_noU o2 hX (by decide)),own_setU o3 (own_noU o3 hX (by decide)),own_setU o4 (own_noU o4 hX (by decide)),own_setU o5 hne⟩,u4,by simpa using u5⟩
theorem US.from {v:Value} {l:List Ent} (u:US w R s a vf vh vt vn vw f h T N W wr) (hv:ownsE wr (R + 2) v l):US w R s a v vh vt vn vw l h T N W (wr.setCell ⟨w.heap.size,0,none⟩ v):=by
 obtain ⟨u1,u2,⟨o1,o2,o3,o4,o5⟩,u4,u5⟩:=u
 have hg:=grown_setQ wr w.heap.size 0 v
 exact ⟨u1.put rfl,u2.kept hg (by simp;omega),OB.keep (row:=some w.heap.size) ⟨hv,o2,o3,o4,o5⟩ hg (fun k hk=>by injection hk with hk;omega),u4,by simpa using u5⟩
theorem US.have {v:Value} {l:List Ent} (u:US w R s a vf vh vt vn vw f h T N W wr) (hv:ownsE wr (R + 2) v l):US w R s a vf v vt vn vw f l T N W (wr.setCell ⟨w.heap.size,1,none⟩ v):=by
 obtain ⟨u1,u2,⟨o1,o2,o3,o4,o5⟩,u4,u5⟩:=u
 have hg:=grown_setQ wr w.heap.size 1 v
 exact ⟨u1.put rfl,u2.kept hg (by simp;omega),OB.keep (row:=some w.heap.size) ⟨o1,hv,o3,o4,o5⟩ hg (fun k hk=>by injection hk with hk;omega),u4,by simpa using u5⟩
theorem own_far {v:Value} {B k n:Nat} {e:TypeId} {xs:List Value} (ho:wr.ownsRow B e k v n xs):∀ j,v.ownBlock=some j→B≤j:=fun j hj=>(World.ownsRow.lt ho j hj).1
theorem US.texts {v:Value} {T':List ByteArray} (u:US w R s a vf vh vt vn vw f h T N W wr) (hn:ownsS w' (R + 2) v T') (hg:wr.grownBy w' vt.ownBlock):US w R s a vf vh v vn vw f h T' N W w':=by
 obtain ⟨u1,u2,⟨o1,o2,o3,o4,o5⟩,u4,u5⟩:=u
 have hf:=own_far o3
 exact ⟨u1.kept hg (fun k hk=>by have:=hf k hk;omega),u2.kept hg (fun e=>by have:=hf R e;omega),⟨World.ownsRow.kept o1 hg (own_apartB o1 o3 (by decide)),World.ownsRow.kept o2 hg (own_apartB o2 o3 (by decide)),hn,World.ownsRow.kept o4 hg (own_apartB o4 o3 (by decide)),World.ownsRow.kept o5 hg (own_apartB o5 o3 (by decide))⟩,u4,Nat.le_trans u5 hg.size⟩
theorem US.numbers {v:Value} {N':List Nat} (u:US w R s a vf vh vt vn vw f h T N W wr) (hn:ownsN w' (R + 2) v N') (hg:wr.grownBy w' vn.ownBlock):US w R s a vf vh vt v vw f h T N' W w':=by
 obtain ⟨u1,u2,o,u4,u5⟩:=u
 have hf:=own_far o.2.2.2.1
 exact ⟨u1.kept hg (fun k hk=>by have:=hf k hk;omega),u2.kept hg (fun e=>by have:=hf R e;omega),o.numbers hn hg,u4,Nat.le_trans u5 hg.size⟩
theorem US.writes {v:Value} {W':List Wr} (u:US w R s a vf vh vt vn vw f h T N W wr) (hn:ownsW w' (R + 2) v W') (hg:wr.grownBy w' vw.ownBlock):US w R s a vf vh vt vn v f h T N W' (w'.setCell ⟨w.heap.size,2,none⟩ v):=by
 obtain ⟨u1,u2,o,u4,u5⟩:=u
 have hf:=own_far o.2.2.2.2
 have o2:=o.writes hn hg
 have hg2:=grown_setQ w' w.heap.size 2 v
 exact ⟨(u1.kept hg (fun k hk=>by have:=hf k hk;omega)).put rfl,(u2.kept hg (fun e=>by have:=hf R e;omega)).kept hg2 (by simp;omega),o2.keep hg2 (fun k hk=>by injection hk with hk;omega),u4,Nat.le_trans u5 (by simpa using hg.size)⟩
end
set_option maxRecDepth 100000 in
theorem nextN_ok (S:Nat) (s:ByteArray) (a n k:Nat) (most:Int) (w:World) (h:Sc w S s a) (hs:s.size≤1000000) (ha:a≤s.size) (hm0 : -1≤most) (hm:most≤1099511627776) (hg:intL (s.data.toList.drop a) most=(n,k,0)) (hk:k≤10) :
   Calls Tryz.prog 76 #[.pointer (some ⟨S,0,none⟩),.int .i64 most] w fun e w'=>e=.returned (.int .i64 (n:Int))∧Sc w' S s (a + k)∧w.grownBy w' (some S) :=
 next_ok S s a n k most w h hs ha (by have:=(intL_le hg).1;omega) hm hg hk
set_option maxRecDepth 100000 in
theorem nextN_bad (S:Nat) (s:ByteArray) (a x:Nat) (most:Int) (w:World) (h:Sc w S s a) (hs:s.size≤1000000) (ha:a≤s.size) (hm0 : -1≤most) (hm:most≤1099511627776) (hg:intL (s.data.toList.drop a) most=(0,0,x)) (hx:x≠0) :
   Calls Tryz.prog 76 #[.pointer (some ⟨S,0,none⟩),.int .i64 most] w fun e w'=>e=.panicked [{ v:=.iface 156 (.agg #[.int .i64 (x:Int),.int .i64 (a:Int)]),recovered:=false }]∧w.grownBy w' (some S):=by
 obtain ⟨c0,c1,z1,hS⟩:=h.cells
 have H:=Lib.hid h
 have HM:Hid ((s.extract a s.size).size≤maxLen):=Lib.hid (show (s.extract a s.size).size≤maxLen by rw [ByteArray.size_extract];unfold maxLen;omega)
 have HGL:Hid (intR (intL (s.extract a s.size).data.toList most)=.tuple #[.int .i64 0,.int .i64 0,.int .i64 (x:Int)]):=Lib.hid (show intR (intL (s.extract a s.size).data.toList most)=.tuple #[.int .i64 0,.int .i64 0,.int .i64 (x:Int)] by rw [ext_dropV,hg];rfl)
 have d3:(0:Int)≤(a:Int):=by omega
 have d4:(a:Int)≤(s.size:Int):=by omega
 have hne:((x:Int) != 0)=true:=by simp;omega
 clear h hg hx
 go_enter Tryz.func76,Tryz.ntmps76
 go_wp2
 go_quiet ((go_at_call 128;with_reducible exact rint_q (s.extract a s.size) most _ _ _ HM.out (by omega) (by omega) HGL.out))
 go_wp2_with fail
 refine (throw_any x (a:Int) _).mono ?_
 rintro r w' ⟨rfl,rfl⟩
 first
   | exact ⟨rfl,rfl,grown_drewN w _ _⟩
   | (show bodyPost _ _ _ _ _ _;exact ⟨rfl,rfl,grown_drewN w _ _⟩)
   | (refine And.intro rfl (And.intro rfl ?_);exact grown_drewN w _ _)
   | (refine And.intro rfl ?_;exact grown_drewN w _ _)
theorem runspan_ok {s t:List UInt8} (x:ByteArray) (X:ByteArray) (n:Nat) (w:World) (hx:x.size≤140737488351232) (hs:x.data.toList=s) (hg:getS s=(t,n,0)) (hX:X=⟨t.toArray⟩) :
   Calls Tryz.prog 79 #[.string x] w fun r w'=>r=.returned (.tuple #[.string X,.int .i64 (n:Int),.int .i64 0])∧w=w':=by
 refine (runspan_any x w hx).mono ?_
 rintro r w' ⟨rfl,rfl⟩
 rw [hs,hg,hX]
 exact ⟨rfl,rfl⟩
theorem runspan_bad {s t:List UInt8} (x:ByteArray) (n e:Nat) (w:World) (hx:x.size≤140737488351232) (hs:x.data.toList=s) (hg:getS s=(t,n,e)) :
   Calls Tryz.prog 79 #[.string x] w fun r w'=>(∃ X:ByteArray,r=.returned (.tuple #[.string X,.int .i64 (n:Int),.int .i64 (e:Int)]))∧w=w':=by
 refine (runspan_any x w hx).mono ?_
 rintro r w' ⟨rfl,rfl⟩
 rw [hs,hg]
 exact ⟨⟨_,rfl⟩,rfl⟩
theorem step_append_num (w:World) {ops:Array Oper} {o:Oper} {a:Act} {K:Act→World→Prop} {Q:Exit→Act→World→Prop} {E:Prop} (hgd:o.guard=none) (s x:Operand)
   (ho:o.op=.call { callee:=.builtin .append,args:=#[s,x],argTypes:=#[127,127] })
   (base:Nat) (v:Value) (l:List Nat) (hs:a.eval s=v) (hown:ownsN w base v l)
   (ad:Addr) (c:Nat) (hx:a.eval x=.slice (some ad) 1 c) (d:Nat) (hcell:w.cell? (ad.add 0)=some (.int .i64 (d:Int)))
   (hlen:l.length + 1≤8796093022208) (hbase:base≤w.heap.size)
   (h:∀ g cap w',ownsN w' base (.slice (some ⟨g,0,none⟩) (l.length + 1) cap) (l ++ [d])→w.grownBy w' v.ownBlock→K (a.put o.dst (.slice (some ⟨g,0,none⟩) (l.length + 1) cap)) w') :
   if Region.wanted o (yielded ops a.tmps)=true then Oper.wp Tryz.prog o a w K Q else E:=by
 obtain ⟨i0,hi,hz0,hz1,hz2⟩:=info_parts info_int
 refine step_append_lies w hgd s x 127 ho base 3 i0 (.int .i64 0) 1 8 Tryz.underlying127 hi hz0 hz1 hz2 rfl (by decide) v l.length (l.map natV) hs hown ad 1 c [natV d] hx rfl ?_ ?_ (by decide) (by unfold maxLen;omega) (by omega) hbase _ rfl ?_
 · intro j u hj
   match j,hj with
   | 0,hj=>simp at hj;subst hj;exact hcell
 · intro u hu;simp at hu;subst hu;rfl
 · intro g cap w' h1 h2 _ _
   refine h g cap w' ?_ h2
   unfold ownsN
   rw [List.length_append,List.map_append]
   exact h1
def KeepQ (i j:Nat) (u v:Value) (Q:Exit→Act→World→Prop):Exit→Act→World→Prop
 | .panic c,a,w=>(a.tmps[i]? = some u∧a.tmps[j]? = some v)∧∀ a':Act,a'.tmps[i]? = some u→a'.tmps[j]? = some v→a'.defers=a.defers→Q (.panic c) a' w
 | e,a,w=>Q e a w
theorem KeepQ.imp {i j:Nat} {u v:Value} {Q:Exit→Act→World→Prop}:∀ (e:Exit) (a:Act) (w:World),KeepQ i j u v Q e a w→Q e a w:=fun e a w h=>by
 cases e <;> first | exact h | exact h.2 a h.1.1 h.1.2 rfl
theorem KeepQ.normal {i j:Nat} {u v:Value} {Q:Exit→Act→World→Prop} {a:Act} {w:World} (h:Q .normal a w):KeepQ i j u v Q .normal a w:=h
theorem wp_region_keep {i j:Nat} {u v:Value} {P:Program} {id:Nat} {ops:Array Oper} {b:Bool} {Q:Exit→Act→World→Prop} {a:Act} {w:World} (h:(Code.region id ops b).wp P (KeepQ i j u v Q) a w):(Code.region id ops b).wp P Q a w :=
 Code.wp_mono KeepQ.imp h
theorem KeepQ.put {i j d:Nat} {u v x:Value} {Q:Exit→Act→World→Prop} (hi:d≠i) (hj:d≠j):∀ (c:_) (a:Act) (w:World),KeepQ i j u v Q (.panic c) (a.put (some d) x) w→KeepQ i j u v Q (.panic c) a w:=fun c a w ⟨⟨h1,h2⟩,h3⟩=>by
 have e1:(a.put (some d) x).tmps[i]? = a.tmps[i]? := by simp [Act.put,hi]
 have e2:(a.put (some d) x).tmps[j]? = a.tmps[j]? := by simp [Act.put,hj]
 exact ⟨⟨e1 ▸ h1,e2 ▸ h2⟩,h3⟩
end Go.Proofs.YtjkbmfpomgcblaaGreatDoor
namespace Go.Proofs.YtjkbmfpomgcblaaGreatDoor
open Go.RowKit
def UO (w:World) (B:Nat) (l:List UInt8) (e:Nat) (vf vh vw:Value) (f h:List Ent) (W:List Wr) (wr:World):Prop :=
 Ro wr (w.heap.size + 1) l e∧RD1 w wr (.slice none 0 0) (.slice none 0 0) (.slice none 0 0)∧wr.heap[B]? = some (.cells #[vf,vh,vw] 25 (0,0))∧w.heap.size + 2≤B∧ownsE wr (w.heap.size + 2) vf f∧ownsE wr (w.heap.size + 2) vh h∧ownsW wr (w.heap.size + 2) vw W
theorem RD1.kept {w W W2:World} {vf vh vw:Value} {row:Option Nat} (h:RD1 w W vf vh vw) (hg:W.grownBy W2 row) (hr:∀ k,row=some k→w.heap.size + 1≤k):RD1 w W2 vf vh vw:=by
 obtain ⟨h1,h2,h3⟩:=h
 exact ⟨(hg.block _ (by omega) (fun e=>by have:=hr _ e.symm;omega)).trans h1,h2.grown hg (by omega) (fun k hk=>by have:=hr k hk;omega),Nat.le_trans h3 hg.size⟩
theorem own_noO {W:World} {B X k n:Nat} {e t:TypeId} {v:Value} {xs:List Value} {cs:Array Value} {fr:Nat×Nat} (ho:W.ownsRow B e k v n xs) (hX:W.heap[X]? = some (.cells cs t fr)) (hne:e≠t):v.ownBlock≠some X:=by
 rcases ho.2 with ⟨rfl,_⟩ | ⟨g,cap,cur,rfl,_,hh,_⟩
 · simp [Value.ownBlock]
 · intro e'
   have:g=X:=by simpa [Value.ownBlock] using e'
   subst this
   rw [hX] at hh
   injection hh with hh
   injection hh with _ ht
   exact hne ht.symm
theorem own_keptO {W W2:World} {B k n:Nat} {e:TypeId} {v:Value} {xs:List Value} {row:Option Nat} (ho:W.ownsRow B e k v n xs) (hg:W.grownBy W2 row) (hne:∀ j,row=some j→v.ownBlock≠some j):W2.ownsRow B e k v n xs :=
 World.ownsRow.kept ho hg (by
   cases hv:v.ownBlock with
   | none=>exact .inl rfl
   | some g=>exact .inr (fun e=>hne g e.symm hv))
section
variable {w wr w':World} {B:Nat} {l l':List UInt8} {e e':Nat} {vf vh vw:Value} {f h:List Ent} {W W':List Wr}
theorem UO.get (u:UO w B l e vf vh vw f h W wr) (hr:Ro w' (w.heap.size + 1) l' e') (hg:wr.grownBy w' (some (w.heap.size + 1))):UO w B l' e' vf vh vw f h W w':=by
 obtain ⟨u1,u2,u3,u4,u5,u6,u7⟩:=u
 have hb:=(Array.getElem?_eq_some_iff.1 u3).1
 exact ⟨hr,u2.kept hg (fun k hk=>by injection hk with hk;omega),(hg.block _ hb (by simp;omega)).trans u3,u4,own_grownO u5 (by omega) hg,own_grownO u6 (by omega) hg,own_grownO u7 (by omega) hg⟩
theorem UO.below (u:UO w B l e vf vh vw f h W wr) (hb:Below wr.heap.size wr w'):UO w B l e vf vh vw f h W w':=by
 obtain ⟨u1,u2,u3,u4,u5,u6,u7⟩:=u
 have hB:=(Array.getElem?_eq_some_iff.1 u3).1
 exact ⟨u1.below hb,u2.below hb,(hb.block _ hB).trans u3,u4,own_keptO u5 (grown_b hb) (by simp),own_keptO u6 (grown_b hb) (by simp),own_keptO u7 (grown_b hb) (by simp)⟩
theorem UO.alloc (u:UO w B l e vf vh vw f h W wr) (o:Obj):UO w B l e vf vh vw f h W (wr.alloc o):=u.below ((Below.refl _ _).alloc (Nat.le_refl _) o)
theorem UO.drew (u:UO w B l e vf vh vw f h W wr):UO w B l e vf vh vw f h W wr.drew:=u.below (Below.refl _ _).drew
theorem UO.writes {v:Value} (u:UO w B l e vf vh vw f h W wr) (hn:ownsW w' (w.heap.size + 2) v W') (hg:wr.grownBy w' vw.ownBlock):UO w B l e vf vh v f h W' (w'.setCell ⟨B,2,none⟩ v):=by
 obtain ⟨u1,u2,u3,u4,u5,u6,u7⟩:=u
 have hB:=(Array.getElem?_eq_some_iff.1 u3).1
 have hf:∀ j,vw.ownBlock=some j→w.heap.size + 2≤j:=fun j hj=>(World.ownsRow.lt u7 j hj).1
 have hnB:=own_noO u7 u3 (by decide)
 have e5:=World.ownsRow.kept u5 hg (own_apartB u5 u7 (by decide))
 have e6:=World.ownsRow.kept u6 hg (own_apartB u6 u7 (by decide))
 have e3:w'.heap[B]? = some (.cells #[vf,vh,vw] 25 (0,0)):=(hg.block _ hB (fun e=>hnB e.symm)).trans u3
 have hs:=grown_setB2 w' B 2 v
 refine ⟨(u1.kept hg (fun e=>by have:=hf _ e;omega)).kept hs (by simp;omega),(u2.kept hg (fun k hk=>by have:=hf k hk;omega)).kept hs (fun k hk=>by injection hk with hk;omega),?_,u4,?_,?_,?_⟩
 · rw [heap_setCell_same _ _ _ _ _ _ e3];rfl
 · exact own_keptO e5 hs (fun j hj=>by injection hj with hj;rw [←hj];exact own_noO e5 e3 (by decide))
 · exact own_keptO e6 hs (fun j hj=>by injection hj with hj;rw [←hj];exact own_noO e6 e3 (by decide))
 · exact own_keptO hn hs (fun j hj=>by injection hj with hj;rw [←hj];exact own_noO hn e3 (by decide))
theorem UO.cells (u:UO w B l e vf vh vw f h W wr):(wr.cell? ⟨B,0,none⟩=some vf∧wr.cell? ⟨B,1,none⟩=some vh∧wr.cell? ⟨B,2,none⟩=some vw)∧wr.frozen? ⟨B,2,none⟩=false :=
 ⟨⟨cell_of_row _ _ 0 _ _ _ u.2.2.1,cell_of_row _ _ 1 _ _ _ u.2.2.1,cell_of_row _ _ 2 _ _ _ u.2.2.1⟩,Lib.frozen_of_heap u.2.2.1 2⟩
end
theorem row_of_writes {w wr w':World} {B:Nat} {l:List UInt8} {e:Nat} {vf vh vw:Value} {f h:List Ent} {W:List Wr} (u:UO w B l e vf vh vw f h W wr) (hg:wr.grownBy w' vw.ownBlock):(∃ x,w'.cell? ⟨B,2,none⟩=some x)∧w'.frozen? ⟨B,2,none⟩=false:=by
 have hB:=(Array.getElem?_eq_some_iff.1 u.2.2.1).1
 have e3:=(hg.block _ hB (fun e=>own_noO u.2.2.2.2.2.2 u.2.2.1 (by decide) e.symm)).trans u.2.2.1
 exact ⟨⟨_,cell_of_row _ _ 2 _ _ _ e3⟩,Lib.frozen_of_heap e3 2⟩
theorem wE_ok {x:Wr} (h:wE x=0):WrOk x:=(wE_facts h).2.2.2.2.2.2.2.2.2
def OUnpIs (w:World) (s:List UInt8) (e:Ending) (w':World):Prop :=
 Below w.heap.size w w'∧((∃ x,unO s=.inl x∧x≠0∧e=.returned (.tuple #[.agg #[.slice none 0 0,.slice none 0 0,.slice none 0 0],.iface 44 (.int .i64 x)])) ∨
   ∃ f h l vf vh vw,unO s=.inr (f,h,l)∧e=.returned (.tuple #[.agg #[vf,vh,vw],.nilIface])∧BatOwn w' (w.heap.size + 1) vf vh vw f h l)
set_option maxRecDepth 100000 in
set_option maxHeartbeats 4000000 in
theorem ounpack_any (s:ByteArray) (w:World) (hs:s.size≤1000000) (hg:errT w) :
   Calls Tryz.prog 81 #[.string s] w (OUnpIs w s.data.toList):=by
 obtain ⟨f,l1,e1,h1⟩:∃ f l e,vecS s.data.toList 0=(f,l,e):=⟨_,_,_,rfl⟩
 obtain ⟨h,l2,e2,h2⟩:∃ f l e,vecS l1 e1=(f,l,e):=⟨_,_,_,rfl⟩
 obtain ⟨n,l3,e3,h3⟩:∃ f l e,numS 60 l2 e2=(f,l,e):=⟨_,_,_,rfl⟩
 obtain ⟨WW,l4,e4,h4⟩:∃ f l e,wrsS n l3 e3 []=(f,l,e):=⟨_,_,_,rfl⟩
 have HP:=Lib.hid (unO_parts h1 h2 h3 h4)
 have hn60:n≤60:=by have:=numS_most (most:=60) (by decide) l2 e2;rw [h3] at this;omega
 have HF16:Hid (f.length≤16):=Lib.hid (by have:=vecS_len s.data.toList 0;rw [h1] at this;exact this)
 have HH16:Hid (h.length≤16):=Lib.hid (by have:=vecS_len l1 e1;rw [h2] at this;exact this)
 have HW60:Hid (WW.length=n):=Lib.hid (by have:=wrsS_len n l3 e3 [];rw [h4] at this;simpa using this)
 have HWE:Hid (e4=0→∀ x∈WW,wE x=0):=Lib.hid (fun he=>by have:=wrsS_wE n l3 e3 [] (by simp) (by rw [h4];exact he);rw [h4] at this;exact this)
 have H1:=Lib.hid h1
 have H2:=Lib.hid h2
 have H3:=Lib.hid h3
 have H4:=Lib.hid h4
 have HEG:Hid (∀ w',Below w.heap.size w w'→errT w'):=Lib.hid (fun w' hb=>hg.below hb)
 obtain ⟨W0,hW0⟩:∃ W0,(w.alloc (.cells #[.slice none 0 0,.slice none 0 0,.slice none 0 0] 25)).alloc (.cells #[.string s,.nilIface] 164)=W0:=⟨_,rfl⟩
 have HR0:Hid (Ro W0 (w.heap.size + 1) s.data.toList 0):=Lib.hid (by
   refine ⟨s,rfl,hs,?_⟩
   have h:=heap_alloc_new (w.alloc (.cells #[.slice none 0 0,.slice none 0 0,.slice none 0 0] 25)) (.cells #[.string s,.nilIface] 164)
   rw [World.size_alloc,hW0] at h
   exact h)
 have HD0:Hid (RD1 w W0 (.slice none 0 0) (.slice none 0 0) (.slice none 0 0)):=Lib.hid (by
   rw [←hW0]
   exact RD1.below ⟨heap_alloc_new w _,(Below.refl _ _).alloc (Nat.le_refl _) _,by simp⟩ ((Below.refl _ _).alloc (Nat.le_refl _) _))
 have HZ0:Hid (W0.heap.size=w.heap.size + 2):=Lib.hid (by rw [←hW0];simp)
 clear h1 h2 h3 h4 hg
 go_enter Tryz.func81,Tryz.ntmps81
 go_wp2_with fail
 refine (oentries_any (w.heap.size + 1) s.data.toList l1 f 0 e1 W0 HR0.out H1.out).mono ?_
 rintro r w2 ⟨v,rfl,ho2,hr2,hg2⟩
 obtain ⟨af,cf,rfl,_⟩:=ho2.is.form
 obtain ⟨nf,hnf⟩:∃ nf,nf=f.length:=⟨_,rfl⟩
 rw [←hnf] at ho2 ⊢
 have HNF:=Lib.hid hnf
 have HR2:=Lib.hid hr2
 have HO2:Hid (ownsE w2 (w.heap.size + 2) (.slice af nf cf) f):=Lib.hid (by rw [←HZ0.out];exact ho2)
 have HD2:=Lib.hid (HD0.out.kept hg2 (fun k hk=>by injection hk with hk;omega))
 have HZ2:Hid (w.heap.size + 2≤w2.heap.size):=Lib.hid (by have:=hg2.size;have:=HZ0.out;omega)
 clear ho2 hr2 hg2 hnf
 go_wp2_with fail
 refine (oentries_any (w.heap.size + 1) l1 l2 h e1 e2 w2 HR2.out H2.out).mono ?_
 rintro r w3 ⟨v,rfl,ho3,hr3,hg3⟩
 obtain ⟨ah,ch,rfl,_⟩:=ho3.is.form
 obtain ⟨nh,hnh⟩:∃ nh,nh=h.length:=⟨_,rfl⟩
 rw [←hnh] at ho3 ⊢
 have HNH:=Lib.hid hnh
 have HU3:Hid (UO w w3.heap.size l2 e2 (.slice af nf cf) (.slice ah nh ch) (.slice none 0 0) f h [] (w3.alloc (.cells #[.slice af nf cf,.slice ah nh ch,.slice none 0 0] 25))):=Lib.hid (by
   have hb:Below w3.heap.size w3 (w3.alloc (.cells #[.slice af nf cf,.slice ah nh ch,.slice none 0 0] 25)):=(Below.refl _ _).alloc (Nat.le_refl _) _
   refine ⟨hr3.below hb,(HD2.out.kept hg3 (fun k hk=>by injection hk with hk;omega)).below hb,heap_alloc_new w3 _,by have:=hg3.size;have:=HZ2.out;omega,(own_grownO HO2.out (by omega) hg3).alloc _,(ho3.mono HZ2.out).alloc _,ownsW_nil _ _⟩)
 clear ho3 hr3 hg3 hnh
 obtain ⟨B,hB⟩:∃ B,w3.heap.size=B:=⟨_,rfl⟩
 rw [hB] at HU3
 go_wp2_with fail
 generalize w3.alloc (.cells #[.slice af nf cf,.slice ah nh ch,.slice none 0 0] 25)=w4 at HU3 ⊢
 refine (onumber_any (w.heap.size + 1) 60 l2 l3 e2 e3 n w4 HU3.out.1 (by decide) (by decide) H3.out).mono ?_
 rintro r w5 ⟨rfl,hr5,hg5⟩
 have HU5:=Lib.hid (HU3.out.get hr5 hg5)
 clear hr5 hg5 HR2 HO2 HD2 HR0 HD0
 go_wp2
 go_loopw [17] (fun i wr=>∃ (j:Nat) (lj:List UInt8) (ej:Nat) (vw:Value) (acc:List Wr),j≤n∧i=.int .i64 j∧acc.length=j∧wrsS (n - j) lj ej acc=(WW,l4,e4)∧UO w B lj ej (.slice af nf cf) (.slice ah nh ch) vw f h acc wr) (fun i _=>n - (intOf i).toNat)
 case atStart=>exact ⟨0,l3,e3,.slice none 0 0,[],Nat.zero_le _,rfl,rfl,H4.out,HU5.out⟩
 case round =>
   obtain ⟨j,lj,ej,vw,acc,hj,rfl,hacc,hent,us⟩:=hrel
   have HUS:=Lib.hid us
   have HAC:=Lib.hid hacc
   obtain ⟨aw,cw,rfl,_⟩:=us.2.2.2.2.2.2.is.form
   obtain ⟨na,hna⟩:∃ na,na=acc.length:=⟨_,rfl⟩
   rw [←hna] at HUS
   have HNA:=Lib.hid hna
   clear us hacc hna HU3 HU5
   obtain ⟨⟨b0,b1,b2⟩,zb⟩:=HUS.out.cells
   by_cases hlt:j < n
   · obtain ⟨q,hq⟩:∃ q,n - j=q + 1:=⟨n - j - 1,by omega⟩
     rw [hq] at hent
     obtain ⟨⟨ty,ry,ky,keyy,vy,ny⟩,l6,e6,h6⟩:∃ y l e,wrS lj ej=(y,l,e):=⟨_,_,_,rfl⟩
     rw [wrsS,h6] at hent
     simp only at hent
     have HENT:Hid (wrsS (n - (j + 1)) l6 e6 (acc ++ [⟨ty,ry,ky,keyy,vy,ny⟩])=(WW,l4,e4)):=Lib.hid (by rw [show n - (j + 1)=q by omega];exact hent)
     have H6:=Lib.hid h6
     have HUD:=Lib.hid HUS.out.drew
     clear h6 hent hq
     go_wp2
     go_region_law (first
       | (go_simp;go_at_call 133;(refine (onext_any (w.heap.size + 1) lj l6 ty ry ky keyy vy ny ej e6 wr.drew HUD.out.1 H6.out).mono ?_;rintro r w7 ⟨rfl,hr7,hg7⟩;have HU7:=Lib.hid (HUD.out.get hr7 hg7);have HU8:=Lib.hid (HU7.out.alloc (.cells #[.int .i64 ty,.int .i64 ry,.int .i64 ky,.string keyy,.string vy,.int .i64 ny] 59));have HBK:Hid (wrBlk (w7.alloc (.cells #[.int .i64 ty,.int .i64 ry,.int .i64 ky,.string keyy,.string vy,.int .i64 ny] 59)) w7.heap.size ⟨ty,ry,ky,keyy,vy,ny⟩):=Lib.hid (heap_alloc_new w7 _);clear hr7 hg7;obtain ⟨⟨_,_,b2⟩,_⟩:=HU7.out.cells;obtain ⟨⟨_,_,b2⟩,_⟩:=HU8.out.cells))
       | (refine step_append_wr _ rfl _ _ rfl (w.heap.size + 2) _ acc rfl HU8.out.2.2.2.2.2.2 w7.heap.size 1 rfl ⟨ty,ry,ky,keyy,vy,ny⟩ HBK.out (by have:=HAC.out;omega) (by have:=HU7.out.2.1.2.1.size;have:=(Array.getElem?_eq_some_iff.1 HU7.out.2.2.1).1;have:=HU7.out.2.2.2.1;simp;omega) ?_;intro g cap w9 ho9 hg9;have HU9:=Lib.hid (HU8.out.writes ho9 hg9);have b9:=row_of_writes HU8.out hg9;obtain ⟨⟨_,b90⟩,b91⟩:=b9))
     all_goals
       clear hg9 b90 b91
       go_wp2
       go_roundw
       case rel=>exact ⟨j + 1,l6,e6,_,acc ++ [⟨ty,ry,ky,keyy,vy,ny⟩],by omega,by go_num,by rw [List.length_append,HAC.out];rfl,HENT.out,HU9.out⟩
       case measure=>simp [intOf];omega
   · obtain rfl:j=n:=by omega
     rw [Nat.sub_self,wrsS] at hent
     injection hent with i1 hent
     injection hent with i2 i3
     subst i1 i2 i3
     obtain ⟨T4,hT4,hT4s,hrow4⟩:=HUS.out.1
     obtain ⟨c0,c1,_,_,_⟩:=hrow4.cells
     have HT4:=Lib.hid hT4
     obtain ⟨⟨a0,a1,a2⟩,za0,za1,za2⟩:=HUS.out.2.1.cells
     clear hrow4 hT4 hT4s
     by_cases he:ej=0
     rotate_left
     · have HRES:Hid (unO s.data.toList=.inl ej):=Lib.hid (by rw [HP.out,if_pos he])
       rw [errV_err he] at c1
       go_wp2
       go_region
       have HM:=Lib.hid ((((HUS.out.2.1.put (o:=0) (v:=.slice none 0 0) rfl).put (o:=1) (v:=.slice none 0 0) rfl).put (o:=2) (v:=.slice none 0 0) rfl).below (Below.refl _ _).drew)
       go_wp2
       obtain ⟨⟨q0,q1,q2⟩,_⟩:=HM.out.cells
       refine bodyPost_ret (v:=.tuple #[.agg #[.slice none 0 0,.slice none 0 0,.slice none 0 0],.iface 44 (.int .i64 ej)]) (by simp [results,Tryz.results81,go_sem,q0,q1,q2]) rfl ?_
       exact ⟨HM.out.2.1,.inl ⟨ej,HRES.out,he,rfl⟩⟩
     · subst he
       rw [errV_okO] at c1
       by_cases hl:0 < T4.size
       · have hne:=bne_empty hl
         have hne2:T4.toList.isEmpty=false:=by
           rw [bne_iff_ne] at hne
           cases hT:T4.toList with
           | nil=>exact absurd hT hne
           | cons a b=>rfl
         have hne3:(T4.toList == [])=false:=by rw [bne] at hne;simpa using hne
         have HRES:Hid (unO s.data.toList=.inl 3):=Lib.hid (by
           rw [HP.out,if_neg (show ¬ (0:Nat)≠0 by simp),if_pos]
           intro e
           have h2:=size_data T4
           rw [HT4.out,e,List.length_nil] at h2
           omega)
         have HM:=Lib.hid (((HUS.out.2.1.put (o:=0) (v:=.slice none 0 0) rfl).put (o:=1) (v:=.slice none 0 0) rfl).put (o:=2) (v:=.slice none 0 0) rfl)
         go_wp2
         obtain ⟨⟨q0,q1,q2⟩,_⟩:=HM.out.cells
         refine bodyPost_ret (v:=.tuple #[.agg #[.slice none 0 0,.slice none 0 0,.slice none 0 0],.iface 44 (.int .i64 3)]) (by simp [results,Tryz.results81,go_sem,q0,q1,q2]) rfl ?_
         exact ⟨HM.out.2.1,.inl ⟨3,HRES.out,by decide,rfl⟩⟩
       · obtain rfl:=empty_of hl
         have hlj:lj=[]:=by rw [←HT4.out]
         have HP2:Hid (unO s.data.toList=if (batF f h acc).1≠0 then .inl (batF f h acc).1 else .inr (f,h,acc)):=Lib.hid (by rw [HP.out,if_neg (show ¬ (0:Nat)≠0 by simp),if_neg (by rw [hlj];simp)])
         obtain ⟨be,bp,hbf⟩:∃ be bp,batF f h acc=(be,bp):=⟨_,_,rfl⟩
         have HWO:Hid (∀ t∈acc,WrOk t):=Lib.hid (fun t ht=>wE_ok (HWE.out rfl t ht))
         have HBT:Hid (BatIs wr (.slice af nf cf) (.slice ah nh ch) (.slice aw na cw) f h acc):=Lib.hid ⟨HUS.out.2.2.2.2.1.is,HUS.out.2.2.2.2.2.1.is,HUS.out.2.2.2.2.2.2.is,by have:=HF16.out;omega,by have:=HH16.out;omega,by have:=HAC.out;omega,HWO.out⟩
         have HBF:=Lib.hid hbf
         rw [hbf] at HP2
         clear hl hlj hbf
         go_wp2_with fail
         refine (brightB_as2 _ _ _ f h acc be bp wr HBT.out (HEG.out _ HUS.out.2.1.2.1) HBF.out).mono ?_
         rintro r w8 ⟨err,rfl,hat,hb8⟩
         have HU8:=Lib.hid (HUS.out.below hb8)
         clear hb8 b0 b1 b2 zb a0 a1 a2 za0 za1 za2 c0 c1
         obtain ⟨⟨b0,b1,b2⟩,_⟩:=HU8.out.cells
         obtain ⟨⟨a0,a1,a2⟩,za0,za1,za2⟩:=HU8.out.2.1.cells
         by_cases hbe:be=0
         · subst hbe
           obtain rfl:=hat.nil rfl
           have HRES:Hid (unO s.data.toList=.inr (f,h,acc)):=Lib.hid (by rw [HP2.out,if_neg (by simp)])
           have HM:=Lib.hid (((HU8.out.2.1.put (o:=0) (v:=.slice af nf cf) rfl).put (o:=1) (v:=.slice ah nh ch) rfl).put (o:=2) (v:=.slice aw na cw) rfl)
           have HBO:Hid (BatOwn (((w8.setCell ⟨w.heap.size,0,none⟩ (.slice af nf cf)).setCell ⟨w.heap.size,1,none⟩ (.slice ah nh ch)).setCell ⟨w.heap.size,2,none⟩ (.slice aw na cw)) (w.heap.size + 1) (.slice af nf cf) (.slice ah nh ch) (.slice aw na cw) f h acc):=Lib.hid (by
             have h0:BatOwn w8 (w.heap.size + 1) (.slice af nf cf) (.slice ah nh ch) (.slice aw na cw) f h acc:=⟨HU8.out.2.2.2.2.1.mono (by omega),HU8.out.2.2.2.2.2.1.mono (by omega),HU8.out.2.2.2.2.2.2.mono (by omega),HF16.out,HH16.out,by have:=HAC.out;omega,HWO.out⟩
             exact ((h0.keep (grown_setB2 _ _ _ _) (fun k hk=>by injection hk with hk;omega)).keep (grown_setB2 _ _ _ _) (fun k hk=>by injection hk with hk;omega)).keep (grown_setB2 _ _ _ _) (fun k hk=>by injection hk with hk;omega))
           clear hat
           go_wp2
           obtain ⟨⟨q0,q1,q2⟩,_⟩:=HM.out.cells
           refine bodyPost_ret (v:=.tuple #[.agg #[.slice af nf cf,.slice ah nh ch,.slice aw na cw],.nilIface]) (by simp [results,Tryz.results81,go_sem,q0,q1,q2]) rfl ?_
           exact ⟨HM.out.2.1,.inr ⟨f,h,acc,_,_,_,HRES.out,rfl,HBO.out⟩⟩
         · have HRES:Hid (unO s.data.toList=.inl be):=Lib.hid (by rw [HP2.out,if_pos hbe])
           have HIE:=Lib.hid (hat.isErr hbe)
           obtain ⟨t,u,rfl⟩:=hat.iface hbe
           clear hat
           go_wp2_with fail
           refine (tell_err _ (be:Int) w8 (HEG.out _ HU8.out.2.1.2.1) HIE.out).mono ?_
           rintro r w9 ⟨rfl,hb9⟩
           have HU9:=Lib.hid (HU8.out.2.1.below hb9)
           clear hb9 b0 b1 b2 a0 a1 a2 za0 za1 za2
           obtain ⟨⟨a0,a1,a2⟩,za0,za1,za2⟩:=HU9.out.cells
           have HM:=Lib.hid (((HU9.out.put (o:=0) (v:=.slice none 0 0) rfl).put (o:=1) (v:=.slice none 0 0) rfl).put (o:=2) (v:=.slice none 0 0) rfl)
           go_wp2
           obtain ⟨⟨q0,q1,q2⟩,_⟩:=HM.out.cells
           refine bodyPost_ret (v:=.tuple #[.agg #[.slice none 0 0,.slice none 0 0,.slice none 0 0],.iface 44 (.int .i64 be)]) (by simp [results,Tryz.results81,go_sem,q0,q1,q2]) rfl ?_
           exact ⟨HM.out.2.1,.inl ⟨be,HRES.out,hbe,rfl⟩⟩
end Go.Proofs.YtjkbmfpomgcblaaGreatDoor
