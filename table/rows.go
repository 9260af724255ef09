package table

import (
	"strings"

	"cistern/api"
)

// The widths of what stands in a row: a line break, a name, and columns.
const (
	breakWidth  = 1
	nameWidth   = 16
	columnWidth = 3
	rowWidth    = breakWidth + nameWidth + columns*columnWidth
)

// The columns behind a name.
const (
	leastAt = iota
	mostAt
	whatAt
	firstAt
	lastAt
	stepAt
	countAt
	columns
)

// What a command is; all others read, or are the session's or the server's.
const (
	writes  = 'w'
	admins  = 'a'
	listens = 'S'
)

// rowCount is how many commands there are.
const rowCount = len(rows) / rowWidth

// row is a command's line of the table, without its line break.
type row string

// rowAt gives a row by its place.
func rowAt(i int) row {
	return row(rows[i*rowWidth+breakWidth : (i+1)*rowWidth])
}

func (r row) name() string {
	name, _, _ := strings.Cut(string(r), " ")
	return name
}

// named tells whether a row is of a name. The beginnings are held against each other first, by which most rows are done with at once.
func (r row) named(name string) bool {
	return strings.HasPrefix(string(r), name) && r.name() == name
}

// number reads a column of one digit, with a sign or without.
func (r row) number(column int) int {
	end := endOf(column)
	n := int(r[end] - '0')
	if r[end-1] == '-' {
		return -n
	}
	return n
}

func (r row) spec() api.Spec {
	kind := r[endOf(whatAt)]
	return api.Spec{
		Name:  r.name(),
		Least: r.number(leastAt),
		Most:  r.number(mostAt),
		Write: kind == writes,
		Admin: kind == admins,
		Sub:   kind == listens,
		First: r.number(firstAt),
		Last:  r.number(lastAt),
		Step:  r.number(stepAt),
		Count: r.number(countAt),
	}
}

// endOf is where a column's last byte stands, to which what it tells reaches.
func endOf(column int) int {
	return nameWidth + (column+1)*columnWidth - 1
}

// rows is the table, a line for each command, rising: its name, least, most, what, first, last, step, count. It is one text, cut by widths, as a list of so many rows would have to be made anew in each call.
const rows = `
append            3  3  w  1  1  1  0
bgsave            1  1  a  0  0  0  0
bitcount          2  5  r  1  1  1  0
bitop             4 -1  w  2 -1  1  0
bitpos            3  6  r  1  1  1  0
client            2 -1  s  0  0  0  0
command           1  3  s  0  0  0  0
config            2 -1  a  0  0  0  0
copy              3  6  w  1  2  1  0
dbsize            1  1  r  0  0  0  0
decr              2  2  w  1  1  1  0
decrby            3  3  w  1  1  1  0
del               2 -1  w  1 -1  1  0
discard           1  1  s  0  0  0  0
dump              2  2  r  1  1  1  0
echo              2  2  s  0  0  0  0
exec              1  1  s  0  0  0  0
exists            2 -1  r  1 -1  1  0
expire            3  4  w  1  1  1  0
expireat          3  4  w  1  1  1  0
expiretime        2  2  r  1  1  1  0
flushall          1  2  w  0  0  0  0
flushdb           1  2  w  0  0  0  0
get               2  2  r  1  1  1  0
getbit            3  3  r  1  1  1  0
getdel            2  2  w  1  1  1  0
getex             2 -1  w  1  1  1  0
getrange          4  4  r  1  1  1  0
getset            3  3  w  1  1  1  0
hdel              3 -1  w  1  1  1  0
hello             1  4  s  0  0  0  0
hexists           3  3  r  1  1  1  0
hget              3  3  r  1  1  1  0
hgetall           2  2  r  1  1  1  0
hincrby           4  4  w  1  1  1  0
hkeys             2  2  r  1  1  1  0
hlen              2  2  r  1  1  1  0
hmget             3 -1  r  1  1  1  0
hmset             4 -1  w  1  1  1  0
hrandfield        2  4  r  1  1  1  0
hscan             3  8  r  1  1  1  0
hset              4 -1  w  1  1  1  0
hsetnx            4  4  w  1  1  1  0
hstrlen           3  3  r  1  1  1  0
hvals             2  2  r  1  1  1  0
incr              2  2  w  1  1  1  0
incrby            3  3  w  1  1  1  0
info              1  2  s  0  0  0  0
keys              2  2  r  0  0  0  0
lastsave          1  1  s  0  0  0  0
lindex            3  3  r  1  1  1  0
linsert           5  5  w  1  1  1  0
llen              2  2  r  1  1  1  0
lmove             5  5  w  1  2  1  0
lmpop             4 -1  w  0  0  0  1
lpop              2  3  w  1  1  1  0
lpos              3 -1  r  1  1  1  0
lpush             3 -1  w  1  1  1  0
lpushx            3 -1  w  1  1  1  0
lrange            4  4  r  1  1  1  0
lrem              4  4  w  1  1  1  0
lset              4  4  w  1  1  1  0
ltrim             4  4  w  1  1  1  0
memory            2  3  s  0  0  0  0
mget              2 -1  r  1 -1  1  0
move              3  3  w  1  1  1  0
mset              3 -1  w  1 -1  2  0
msetnx            3 -1  w  1 -1  2  0
multi             1  1  s  0  0  0  0
object            3  3  r  2  2  1  0
persist           2  2  w  1  1  1  0
pexpire           3  4  w  1  1  1  0
pexpireat         3  4  w  1  1  1  0
pexpiretime       2  2  r  1  1  1  0
ping              1  2  s  0  0  0  0
psetex            4  4  w  1  1  1  0
psubscribe        2 -1  S  0  0  0  0
pttl              2  2  r  1  1  1  0
publish           3  3  s  0  0  0  0
pubsub            2 -1  s  0  0  0  0
punsubscribe      1 -1  S  0  0  0  0
quit              1  1  s  0  0  0  0
randomkey         1  1  r  0  0  0  0
rename            3  3  w  1  2  1  0
renamenx          3  3  w  1  2  1  0
reset             1  1  s  0  0  0  0
restore           4 -1  w  1  1  1  0
rpop              2  3  w  1  1  1  0
rpoplpush         3  3  w  1  2  1  0
rpush             3 -1  w  1  1  1  0
rpushx            3 -1  w  1  1  1  0
sadd              3 -1  w  1  1  1  0
save              1  1  a  0  0  0  0
scan              2  8  r  0  0  0  0
scard             2  2  r  1  1  1  0
sdiff             2 -1  r  1 -1  1  0
sdiffstore        3 -1  w  1 -1  1  0
select            2  2  s  0  0  0  0
set               3 -1  w  1  1  1  0
setbit            4  4  w  1  1  1  0
setex             4  4  w  1  1  1  0
setnx             3  3  w  1  1  1  0
setrange          4  4  w  1  1  1  0
shutdown          1  2  a  0  0  0  0
sinter            2 -1  r  1 -1  1  0
sintercard        3 -1  r  0  0  0  1
sinterstore       3 -1  w  1 -1  1  0
sismember         3  3  r  1  1  1  0
slowlog           2  3  a  0  0  0  0
smembers          2  2  r  1  1  1  0
smismember        3 -1  r  1  1  1  0
smove             4  4  w  1  2  1  0
sort              2 -1  w  1  1  1  0
spop              2  3  w  1  1  1  0
srandmember       2  3  r  1  1  1  0
srem              3 -1  w  1  1  1  0
sscan             3  7  r  1  1  1  0
strlen            2  2  r  1  1  1  0
subscribe         2 -1  S  0  0  0  0
sunion            2 -1  r  1 -1  1  0
sunionstore       3 -1  w  1 -1  1  0
swapdb            3  3  w  0  0  0  0
time              1  1  s  0  0  0  0
touch             2 -1  r  1 -1  1  0
ttl               2  2  r  1  1  1  0
type              2  2  r  1  1  1  0
unlink            2 -1  w  1 -1  1  0
unsubscribe       1 -1  S  0  0  0  0
unwatch           1  1  s  0  0  0  0
watch             2 -1  s  1 -1  1  0
zadd              4 -1  w  1  1  1  0
zcard             2  2  r  1  1  1  0
zcount            4  4  r  1  1  1  0
zdiff             3 -1  r  0  0  0  1
zdiffstore        4 -1  w  1  1  1  2
zincrby           4  4  w  1  1  1  0
zinter            3 -1  r  0  0  0  1
zintercard        3 -1  r  0  0  0  1
zinterstore       4 -1  w  1  1  1  2
zlexcount         4  4  r  1  1  1  0
zmscore           3 -1  r  1  1  1  0
zpopmax           2  3  w  1  1  1  0
zpopmin           2  3  w  1  1  1  0
zrandmember       2  4  r  1  1  1  0
zrange            4 -1  r  1  1  1  0
zrangebylex       4  7  r  1  1  1  0
zrangebyscore     4 -1  r  1  1  1  0
zrangestore       5 -1  w  1  2  1  0
zrank             3  4  r  1  1  1  0
zrem              3 -1  w  1  1  1  0
zremrangebylex    4  4  w  1  1  1  0
zremrangebyrank   4  4  w  1  1  1  0
zremrangebyscore  4  4  w  1  1  1  0
zrevrange         4  5  r  1  1  1  0
zrevrangebylex    4  7  r  1  1  1  0
zrevrangebyscore  4 -1  r  1  1  1  0
zrevrank          3  4  r  1  1  1  0
zscan             3  7  r  1  1  1  0
zscore            3  3  r  1  1  1  0
zunion            3 -1  r  0  0  0  1
zunionstore       4 -1  w  1  1  1  2`
